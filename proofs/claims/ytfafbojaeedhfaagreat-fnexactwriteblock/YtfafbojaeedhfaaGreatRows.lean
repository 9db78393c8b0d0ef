/-
  No cell of these rows narrows 'for every input' (looked for: loops, veiled, ifaces, maps, wideKeys, modest, calm, conditions, laid).
  DERIVED. THE GIVEN ROWS OF THIS SEAT. 13 by the template 'for every input the law returns true; each argument reads behind the call as it read before'; 0 by the template 'total and deterministic' (their statements: YtfafbojaeedhfaaGreatTotals.lean).
  GIVEN WITH THE SEED: the statements are not yours to turn. If you find one false, say at which input.
  Laid BY PROGRAM, IN A SANDBOX (cutbox-rows.mjs): the forced cells as the released guide's own fill.sh prints them over the translation 2fd07ddd83be959e… (all of the seat's roots in one cut). By AI agents, Wed Nov 11 2026. No macro, syntax, notation, axiom, sorry.
-/
import Derived.Test.YtfafbojaeedhfaaGreatChecked
import GoSem.Claim
import GoSem.ClaimJoined
import GoSem.ClaimMapViews
import Derived.JoinedTies
import Derived.KernelRfl
namespace Go.Proofs.YtfafbojaeedhfaaGreat
/- THE CELL 'sum', in the pinned program and in every row, IS THE sha256 OF THE DUMP (.gsa) THAT YtfafbojaeedhfaaGreatProg.lean LOADS. Nothing in Lean hashes anything: it is a label: what it is worth is what the hold of that sum in a sandbox is worth. -/
noncomputable def Tryz.pinned : Pinned := { name := "ytfafbojaeedhfaagreat", sum := "2fd07ddd83be959e65df465cfdbccda9e900c9e930c7ad2262953a344509a91d", checked := Tryz.checked }
namespace Rows
def none {H : Type} : Left H := { results := [], args := [] }

/-- 'laws.FnSwitches': WHATEVER THE INPUT: true; the input reads as it did. -/
def fnSwitchesSpec : ChangeSpec := { name := "fnSwitches", fn := fun _ => fun
  | [d] => { results := [.lit (.bool true)], args := [d] }
  | _ => none }
def fnSwitchesRow : OpenClaim := { program := "ytfafbojaeedhfaagreat", sum := "2fd07ddd83be959e65df465cfdbccda9e900c9e930c7ad2262953a344509a91d", func := "loop.example/g00089/laws.FnSwitches", spec := "fnSwitches", inPlace := ["(*internal/sync.Mutex).Lock", "internal/race.Disable", "sync/atomic.CompareAndSwapInt32", "internal/race.Enable", "internal/race.Acquire", "(*internal/sync.Mutex).lockSlow", "internal/sync.runtime_canSpin", "internal/sync.runtime_doSpin", "internal/sync.throw", "internal/sync.runtime_nanotime", "internal/sync.runtime_SemacquireMutex", "sync/atomic.AddInt32", "(*internal/sync.Mutex).Unlock", "internal/race.ReleaseMerge", "(*internal/sync.Mutex).unlockSlow", "internal/sync.fatal", "internal/sync.runtime_Semrelease", "sync/atomic.LoadUint32", "sync/atomic.StoreUint32"], unfollowed := true, recurses := true, apart := false }
def FnSwitchesSaid : Prop := fnSwitchesRow.holds Tryz.pinned (OpenSpec.ofChange fnSwitchesSpec)

/-- ITS FALSE NEIGHBOUR: 'it returns false'. Refute it at one input. -/
def fnSwitchesWrong : ChangeSpec := { name := "fnSwitches", fn := fun _ => fun
  | [d] => { results := [.lit (.bool false)], args := [d] }
  | _ => none }
def FnSwitchesWrongFalsely : Prop := fnSwitchesRow.holds Tryz.pinned (OpenSpec.ofChange fnSwitchesWrong)

/-- 'laws.FnWrites': WHATEVER THE INPUT: true; the input reads as it did. -/
def fnWritesSpec : ChangeSpec := { name := "fnWrites", fn := fun _ => fun
  | [d] => { results := [.lit (.bool true)], args := [d] }
  | _ => none }
def fnWritesRow : OpenClaim := { program := "ytfafbojaeedhfaagreat", sum := "2fd07ddd83be959e65df465cfdbccda9e900c9e930c7ad2262953a344509a91d", func := "loop.example/g00089/laws.FnWrites", spec := "fnWrites", inPlace := ["(*internal/sync.Mutex).Lock", "internal/race.Disable", "sync/atomic.CompareAndSwapInt32", "internal/race.Enable", "internal/race.Acquire", "(*internal/sync.Mutex).lockSlow", "internal/sync.runtime_canSpin", "internal/sync.runtime_doSpin", "internal/sync.throw", "internal/sync.runtime_nanotime", "internal/sync.runtime_SemacquireMutex", "sync/atomic.AddInt32", "(*internal/sync.Mutex).Unlock", "internal/race.ReleaseMerge", "(*internal/sync.Mutex).unlockSlow", "internal/sync.fatal", "internal/sync.runtime_Semrelease", "sync/atomic.LoadUint32", "sync/atomic.StoreUint32"], unfollowed := true, recurses := true, apart := false }
def FnWritesSaid : Prop := fnWritesRow.holds Tryz.pinned (OpenSpec.ofChange fnWritesSpec)

/-- ITS FALSE NEIGHBOUR: 'it returns false'. Refute it at one input. -/
def fnWritesWrong : ChangeSpec := { name := "fnWrites", fn := fun _ => fun
  | [d] => { results := [.lit (.bool false)], args := [d] }
  | _ => none }
def FnWritesWrongFalsely : Prop := fnWritesRow.holds Tryz.pinned (OpenSpec.ofChange fnWritesWrong)

/-- 'laws.FnExactSwitchOn': WHATEVER THE INPUT: true; the input reads as it did. -/
def fnExactSwitchOnSpec : ChangeSpec := { name := "fnExactSwitchOn", fn := fun _ => fun
  | [d1, d2] => { results := [.lit (.bool true)], args := [d1, d2] }
  | _ => none }
def fnExactSwitchOnRow : OpenClaim := { program := "ytfafbojaeedhfaagreat", sum := "2fd07ddd83be959e65df465cfdbccda9e900c9e930c7ad2262953a344509a91d", func := "loop.example/g00089/laws.FnExactSwitchOn", spec := "fnExactSwitchOn", unfollowed := true, recurses := true, apart := false }
def FnExactSwitchOnSaid : Prop := fnExactSwitchOnRow.holds Tryz.pinned (OpenSpec.ofChange fnExactSwitchOnSpec)

/-- ITS FALSE NEIGHBOUR: 'it returns false'. Refute it at one input. -/
def fnExactSwitchOnWrong : ChangeSpec := { name := "fnExactSwitchOn", fn := fun _ => fun
  | [d1, d2] => { results := [.lit (.bool false)], args := [d1, d2] }
  | _ => none }
def FnExactSwitchOnWrongFalsely : Prop := fnExactSwitchOnRow.holds Tryz.pinned (OpenSpec.ofChange fnExactSwitchOnWrong)

/-- 'laws.FnExactSwitchOff': WHATEVER THE INPUT: true; the input reads as it did. -/
def fnExactSwitchOffSpec : ChangeSpec := { name := "fnExactSwitchOff", fn := fun _ => fun
  | [d1, d2] => { results := [.lit (.bool true)], args := [d1, d2] }
  | _ => none }
def fnExactSwitchOffRow : OpenClaim := { program := "ytfafbojaeedhfaagreat", sum := "2fd07ddd83be959e65df465cfdbccda9e900c9e930c7ad2262953a344509a91d", func := "loop.example/g00089/laws.FnExactSwitchOff", spec := "fnExactSwitchOff", unfollowed := true, recurses := true, apart := false }
def FnExactSwitchOffSaid : Prop := fnExactSwitchOffRow.holds Tryz.pinned (OpenSpec.ofChange fnExactSwitchOffSpec)

/-- ITS FALSE NEIGHBOUR: 'it returns false'. Refute it at one input. -/
def fnExactSwitchOffWrong : ChangeSpec := { name := "fnExactSwitchOff", fn := fun _ => fun
  | [d1, d2] => { results := [.lit (.bool false)], args := [d1, d2] }
  | _ => none }
def FnExactSwitchOffWrongFalsely : Prop := fnExactSwitchOffRow.holds Tryz.pinned (OpenSpec.ofChange fnExactSwitchOffWrong)

/-- 'laws.FnExactReadBlock': WHATEVER THE INPUT: true; the input reads as it did. -/
def fnExactReadBlockSpec : ChangeSpec := { name := "fnExactReadBlock", fn := fun _ => fun
  | [d1, d2, d3, d4] => { results := [.lit (.bool true)], args := [d1, d2, d3, d4] }
  | _ => none }
def fnExactReadBlockRow : OpenClaim := { program := "ytfafbojaeedhfaagreat", sum := "2fd07ddd83be959e65df465cfdbccda9e900c9e930c7ad2262953a344509a91d", func := "loop.example/g00089/laws.FnExactReadBlock", spec := "fnExactReadBlock", unfollowed := true, recurses := true, apart := false }
def FnExactReadBlockSaid : Prop := fnExactReadBlockRow.holds Tryz.pinned (OpenSpec.ofChange fnExactReadBlockSpec)

/-- ITS FALSE NEIGHBOUR: 'it returns false'. Refute it at one input. -/
def fnExactReadBlockWrong : ChangeSpec := { name := "fnExactReadBlock", fn := fun _ => fun
  | [d1, d2, d3, d4] => { results := [.lit (.bool false)], args := [d1, d2, d3, d4] }
  | _ => none }
def FnExactReadBlockWrongFalsely : Prop := fnExactReadBlockRow.holds Tryz.pinned (OpenSpec.ofChange fnExactReadBlockWrong)

/-- 'laws.FnExactWriteBlock': WHATEVER THE INPUT: true; the input reads as it did. -/
def fnExactWriteBlockSpec : ChangeSpec := { name := "fnExactWriteBlock", fn := fun _ => fun
  | [d1, d2, d3, d4, d5] => { results := [.lit (.bool true)], args := [d1, d2, d3, d4, d5] }
  | _ => none }
def fnExactWriteBlockRow : OpenClaim := { program := "ytfafbojaeedhfaagreat", sum := "2fd07ddd83be959e65df465cfdbccda9e900c9e930c7ad2262953a344509a91d", func := "loop.example/g00089/laws.FnExactWriteBlock", spec := "fnExactWriteBlock", inPlace := ["(*internal/sync.Mutex).Lock", "internal/race.Disable", "sync/atomic.CompareAndSwapInt32", "internal/race.Enable", "internal/race.Acquire", "(*internal/sync.Mutex).lockSlow", "internal/sync.runtime_canSpin", "internal/sync.runtime_doSpin", "internal/sync.throw", "internal/sync.runtime_nanotime", "internal/sync.runtime_SemacquireMutex", "sync/atomic.AddInt32", "(*internal/sync.Mutex).Unlock", "internal/race.ReleaseMerge", "(*internal/sync.Mutex).unlockSlow", "internal/sync.fatal", "internal/sync.runtime_Semrelease", "sync/atomic.LoadUint32", "sync/atomic.StoreUint32"], unfollowed := true, recurses := true, apart := false }
def FnExactWriteBlockSaid : Prop := fnExactWriteBlockRow.holds Tryz.pinned (OpenSpec.ofChange fnExactWriteBlockSpec)

/-- ITS FALSE NEIGHBOUR: 'it returns false'. Refute it at one input. -/
def fnExactWriteBlockWrong : ChangeSpec := { name := "fnExactWriteBlock", fn := fun _ => fun
  | [d1, d2, d3, d4, d5] => { results := [.lit (.bool false)], args := [d1, d2, d3, d4, d5] }
  | _ => none }
def FnExactWriteBlockWrongFalsely : Prop := fnExactWriteBlockRow.holds Tryz.pinned (OpenSpec.ofChange fnExactWriteBlockWrong)

/-- 'laws.FnExactTrustDrive': WHATEVER THE INPUT: true; the input reads as it did. -/
def fnExactTrustDriveSpec : ChangeSpec := { name := "fnExactTrustDrive", fn := fun _ => fun
  | [d1, d2, d3] => { results := [.lit (.bool true)], args := [d1, d2, d3] }
  | _ => none }
def fnExactTrustDriveRow : OpenClaim := { program := "ytfafbojaeedhfaagreat", sum := "2fd07ddd83be959e65df465cfdbccda9e900c9e930c7ad2262953a344509a91d", func := "loop.example/g00089/laws.FnExactTrustDrive", spec := "fnExactTrustDrive", inPlace := ["(*internal/sync.Mutex).Lock", "internal/race.Disable", "sync/atomic.CompareAndSwapInt32", "internal/race.Enable", "internal/race.Acquire", "(*internal/sync.Mutex).lockSlow", "internal/sync.runtime_canSpin", "internal/sync.runtime_doSpin", "internal/sync.throw", "internal/sync.runtime_nanotime", "internal/sync.runtime_SemacquireMutex", "sync/atomic.AddInt32", "(*internal/sync.Mutex).Unlock", "internal/race.ReleaseMerge", "(*internal/sync.Mutex).unlockSlow", "internal/sync.fatal", "internal/sync.runtime_Semrelease", "sync/atomic.LoadUint32", "sync/atomic.StoreUint32"], unfollowed := true, recurses := true, apart := false }
def FnExactTrustDriveSaid : Prop := fnExactTrustDriveRow.holds Tryz.pinned (OpenSpec.ofChange fnExactTrustDriveSpec)

/-- ITS FALSE NEIGHBOUR: 'it returns false'. Refute it at one input. -/
def fnExactTrustDriveWrong : ChangeSpec := { name := "fnExactTrustDrive", fn := fun _ => fun
  | [d1, d2, d3] => { results := [.lit (.bool false)], args := [d1, d2, d3] }
  | _ => none }
def FnExactTrustDriveWrongFalsely : Prop := fnExactTrustDriveRow.holds Tryz.pinned (OpenSpec.ofChange fnExactTrustDriveWrong)

/-- 'laws.FnExactAppendRec': WHATEVER THE INPUT: true; the input reads as it did. -/
def fnExactAppendRecSpec : ChangeSpec := { name := "fnExactAppendRec", fn := fun _ => fun
  | [d1, d2, d3] => { results := [.lit (.bool true)], args := [d1, d2, d3] }
  | _ => none }
def fnExactAppendRecRow : OpenClaim := { program := "ytfafbojaeedhfaagreat", sum := "2fd07ddd83be959e65df465cfdbccda9e900c9e930c7ad2262953a344509a91d", func := "loop.example/g00089/laws.FnExactAppendRec", spec := "fnExactAppendRec", inPlace := ["(*internal/sync.Mutex).Lock", "internal/race.Disable", "sync/atomic.CompareAndSwapInt32", "internal/race.Enable", "internal/race.Acquire", "(*internal/sync.Mutex).lockSlow", "internal/sync.runtime_canSpin", "internal/sync.runtime_doSpin", "internal/sync.throw", "internal/sync.runtime_nanotime", "internal/sync.runtime_SemacquireMutex", "sync/atomic.AddInt32", "(*internal/sync.Mutex).Unlock", "internal/race.ReleaseMerge", "(*internal/sync.Mutex).unlockSlow", "internal/sync.fatal", "internal/sync.runtime_Semrelease", "sync/atomic.LoadUint32", "sync/atomic.StoreUint32"], unfollowed := true, recurses := true, apart := false }
def FnExactAppendRecSaid : Prop := fnExactAppendRecRow.holds Tryz.pinned (OpenSpec.ofChange fnExactAppendRecSpec)

/-- ITS FALSE NEIGHBOUR: 'it returns false'. Refute it at one input. -/
def fnExactAppendRecWrong : ChangeSpec := { name := "fnExactAppendRec", fn := fun _ => fun
  | [d1, d2, d3] => { results := [.lit (.bool false)], args := [d1, d2, d3] }
  | _ => none }
def FnExactAppendRecWrongFalsely : Prop := fnExactAppendRecRow.holds Tryz.pinned (OpenSpec.ofChange fnExactAppendRecWrong)

/-- 'laws.FnExactStrikeRecs': WHATEVER THE INPUT: true; the input reads as it did. -/
def fnExactStrikeRecsSpec : ChangeSpec := { name := "fnExactStrikeRecs", fn := fun _ => fun
  | [d1, d2, d3, d4] => { results := [.lit (.bool true)], args := [d1, d2, d3, d4] }
  | _ => none }
def fnExactStrikeRecsRow : OpenClaim := { program := "ytfafbojaeedhfaagreat", sum := "2fd07ddd83be959e65df465cfdbccda9e900c9e930c7ad2262953a344509a91d", func := "loop.example/g00089/laws.FnExactStrikeRecs", spec := "fnExactStrikeRecs", inPlace := ["(*internal/sync.Mutex).Lock", "internal/race.Disable", "sync/atomic.CompareAndSwapInt32", "internal/race.Enable", "internal/race.Acquire", "(*internal/sync.Mutex).lockSlow", "internal/sync.runtime_canSpin", "internal/sync.runtime_doSpin", "internal/sync.throw", "internal/sync.runtime_nanotime", "internal/sync.runtime_SemacquireMutex", "sync/atomic.AddInt32", "(*internal/sync.Mutex).Unlock", "internal/race.ReleaseMerge", "(*internal/sync.Mutex).unlockSlow", "internal/sync.fatal", "internal/sync.runtime_Semrelease", "sync/atomic.LoadUint32", "sync/atomic.StoreUint32"], unfollowed := true, recurses := true, apart := false }
def FnExactStrikeRecsSaid : Prop := fnExactStrikeRecsRow.holds Tryz.pinned (OpenSpec.ofChange fnExactStrikeRecsSpec)

/-- ITS FALSE NEIGHBOUR: 'it returns false'. Refute it at one input. -/
def fnExactStrikeRecsWrong : ChangeSpec := { name := "fnExactStrikeRecs", fn := fun _ => fun
  | [d1, d2, d3, d4] => { results := [.lit (.bool false)], args := [d1, d2, d3, d4] }
  | _ => none }
def FnExactStrikeRecsWrongFalsely : Prop := fnExactStrikeRecsRow.holds Tryz.pinned (OpenSpec.ofChange fnExactStrikeRecsWrong)

/-- 'laws.FnExactWipeDrive': WHATEVER THE INPUT: true; the input reads as it did. -/
def fnExactWipeDriveSpec : ChangeSpec := { name := "fnExactWipeDrive", fn := fun _ => fun
  | [d1, d2, d3] => { results := [.lit (.bool true)], args := [d1, d2, d3] }
  | _ => none }
def fnExactWipeDriveRow : OpenClaim := { program := "ytfafbojaeedhfaagreat", sum := "2fd07ddd83be959e65df465cfdbccda9e900c9e930c7ad2262953a344509a91d", func := "loop.example/g00089/laws.FnExactWipeDrive", spec := "fnExactWipeDrive", unfollowed := true, recurses := true, apart := false }
def FnExactWipeDriveSaid : Prop := fnExactWipeDriveRow.holds Tryz.pinned (OpenSpec.ofChange fnExactWipeDriveSpec)

/-- ITS FALSE NEIGHBOUR: 'it returns false'. Refute it at one input. -/
def fnExactWipeDriveWrong : ChangeSpec := { name := "fnExactWipeDrive", fn := fun _ => fun
  | [d1, d2, d3] => { results := [.lit (.bool false)], args := [d1, d2, d3] }
  | _ => none }
def FnExactWipeDriveWrongFalsely : Prop := fnExactWipeDriveRow.holds Tryz.pinned (OpenSpec.ofChange fnExactWipeDriveWrong)

/-- 'laws.FnExactWipeTape': WHATEVER THE INPUT: true; the input reads as it did. -/
def fnExactWipeTapeSpec : ChangeSpec := { name := "fnExactWipeTape", fn := fun _ => fun
  | [d1, d2] => { results := [.lit (.bool true)], args := [d1, d2] }
  | _ => none }
def fnExactWipeTapeRow : OpenClaim := { program := "ytfafbojaeedhfaagreat", sum := "2fd07ddd83be959e65df465cfdbccda9e900c9e930c7ad2262953a344509a91d", func := "loop.example/g00089/laws.FnExactWipeTape", spec := "fnExactWipeTape", unfollowed := true, recurses := true, apart := false }
def FnExactWipeTapeSaid : Prop := fnExactWipeTapeRow.holds Tryz.pinned (OpenSpec.ofChange fnExactWipeTapeSpec)

/-- ITS FALSE NEIGHBOUR: 'it returns false'. Refute it at one input. -/
def fnExactWipeTapeWrong : ChangeSpec := { name := "fnExactWipeTape", fn := fun _ => fun
  | [d1, d2] => { results := [.lit (.bool false)], args := [d1, d2] }
  | _ => none }
def FnExactWipeTapeWrongFalsely : Prop := fnExactWipeTapeRow.holds Tryz.pinned (OpenSpec.ofChange fnExactWipeTapeWrong)

/-- 'laws.FnExactCutPower': WHATEVER THE INPUT: true; the input reads as it did. -/
def fnExactCutPowerSpec : ChangeSpec := { name := "fnExactCutPower", fn := fun _ => fun
  | [d] => { results := [.lit (.bool true)], args := [d] }
  | _ => none }
def fnExactCutPowerRow : OpenClaim := { program := "ytfafbojaeedhfaagreat", sum := "2fd07ddd83be959e65df465cfdbccda9e900c9e930c7ad2262953a344509a91d", func := "loop.example/g00089/laws.FnExactCutPower", spec := "fnExactCutPower", unfollowed := true, recurses := true, apart := false }
def FnExactCutPowerSaid : Prop := fnExactCutPowerRow.holds Tryz.pinned (OpenSpec.ofChange fnExactCutPowerSpec)

/-- ITS FALSE NEIGHBOUR: 'it returns false'. Refute it at one input. -/
def fnExactCutPowerWrong : ChangeSpec := { name := "fnExactCutPower", fn := fun _ => fun
  | [d] => { results := [.lit (.bool false)], args := [d] }
  | _ => none }
def FnExactCutPowerWrongFalsely : Prop := fnExactCutPowerRow.holds Tryz.pinned (OpenSpec.ofChange fnExactCutPowerWrong)

/-- 'laws.FnExactRaisePower': WHATEVER THE INPUT: true; the input reads as it did. -/
def fnExactRaisePowerSpec : ChangeSpec := { name := "fnExactRaisePower", fn := fun _ => fun
  | [d1, d2] => { results := [.lit (.bool true)], args := [d1, d2] }
  | _ => none }
def fnExactRaisePowerRow : OpenClaim := { program := "ytfafbojaeedhfaagreat", sum := "2fd07ddd83be959e65df465cfdbccda9e900c9e930c7ad2262953a344509a91d", func := "loop.example/g00089/laws.FnExactRaisePower", spec := "fnExactRaisePower", unfollowed := true, recurses := true, apart := false }
def FnExactRaisePowerSaid : Prop := fnExactRaisePowerRow.holds Tryz.pinned (OpenSpec.ofChange fnExactRaisePowerSpec)

/-- ITS FALSE NEIGHBOUR: 'it returns false'. Refute it at one input. -/
def fnExactRaisePowerWrong : ChangeSpec := { name := "fnExactRaisePower", fn := fun _ => fun
  | [d1, d2] => { results := [.lit (.bool false)], args := [d1, d2] }
  | _ => none }
def FnExactRaisePowerWrongFalsely : Prop := fnExactRaisePowerRow.holds Tryz.pinned (OpenSpec.ofChange fnExactRaisePowerWrong)

/- THE SECOND FORM. 'bulk': how many values and letters a reading holds, each counted each time it is reached (what is shared counts as often as it is met; a slice's spare places count too). A statement '..UptoSaid' is the law's where the arguments, and the package variables that the reading takes, are together of bulk at most 1048576: NARROWER than '..Said'. Prove '..Said' where nothing that the law and all that it calls make is longer than what came in: it says more and counts as full. Else prove '..UptoSaid'. A law counts once. -/
mutual
def uptoBulk {H : Type} : DataW H → Nat
  | .lit (.string bytes) => bytes.length + 1
  | .lit _ => 1
  | .nil => 1
  | .ptr d => uptoBulk d + 1
  | .slice elems spare => uptoBulkAll elems + uptoBulkAll spare + 1
  | .agg parts => uptoBulkAll parts + 1
  | .iface _ d => uptoBulk d + 1
  | .map entries => uptoBulkEntries entries + 1
  | .held _ => 1
def uptoBulkAll {H : Type} : List (DataW H) → Nat
  | [] => 0
  | d :: r => uptoBulk d + uptoBulkAll r
def uptoBulkEntries {H : Type} : List (Lit × DataW H) → Nat
  | [] => 0
  | x :: r => uptoBulkEntry x + uptoBulkEntries r
def uptoBulkEntry {H : Type} : Lit × DataW H → Nat
  | (.string bytes, d) => bytes.length + uptoBulk d + 1
  | (_, d) => uptoBulk d + 1
 end
def uptoSmall : (H : Type) → List (DataW H) → Bool := fun _ ds => decide (uptoBulkAll ds ≤ 1048576)
def OpenSpec.upto (s : _root_.Go.ChangeSpec) : _root_.Go.OpenSpec := { _root_.Go.OpenSpec.ofChange s with cond := some uptoSmall }

/-- 'laws.FnSwitches', WHERE WHAT IT READS IS OF BULK AT MOST 1048576: true; the input reads as it did. -/
def fnSwitchesUptoRow : OpenClaim := { program := "ytfafbojaeedhfaagreat", sum := "2fd07ddd83be959e65df465cfdbccda9e900c9e930c7ad2262953a344509a91d", func := "loop.example/g00089/laws.FnSwitches", spec := "fnSwitches", inPlace := ["(*internal/sync.Mutex).Lock", "internal/race.Disable", "sync/atomic.CompareAndSwapInt32", "internal/race.Enable", "internal/race.Acquire", "(*internal/sync.Mutex).lockSlow", "internal/sync.runtime_canSpin", "internal/sync.runtime_doSpin", "internal/sync.throw", "internal/sync.runtime_nanotime", "internal/sync.runtime_SemacquireMutex", "sync/atomic.AddInt32", "(*internal/sync.Mutex).Unlock", "internal/race.ReleaseMerge", "(*internal/sync.Mutex).unlockSlow", "internal/sync.fatal", "internal/sync.runtime_Semrelease", "sync/atomic.LoadUint32", "sync/atomic.StoreUint32"], unfollowed := true, recurses := true, apart := false, narrowed := true }
def FnSwitchesUptoSaid : Prop := fnSwitchesUptoRow.holds Tryz.pinned (OpenSpec.upto fnSwitchesSpec)

/-- 'laws.FnWrites', WHERE WHAT IT READS IS OF BULK AT MOST 1048576: true; the input reads as it did. -/
def fnWritesUptoRow : OpenClaim := { program := "ytfafbojaeedhfaagreat", sum := "2fd07ddd83be959e65df465cfdbccda9e900c9e930c7ad2262953a344509a91d", func := "loop.example/g00089/laws.FnWrites", spec := "fnWrites", inPlace := ["(*internal/sync.Mutex).Lock", "internal/race.Disable", "sync/atomic.CompareAndSwapInt32", "internal/race.Enable", "internal/race.Acquire", "(*internal/sync.Mutex).lockSlow", "internal/sync.runtime_canSpin", "internal/sync.runtime_doSpin", "internal/sync.throw", "internal/sync.runtime_nanotime", "internal/sync.runtime_SemacquireMutex", "sync/atomic.AddInt32", "(*internal/sync.Mutex).Unlock", "internal/race.ReleaseMerge", "(*internal/sync.Mutex).unlockSlow", "internal/sync.fatal", "internal/sync.runtime_Semrelease", "sync/atomic.LoadUint32", "sync/atomic.StoreUint32"], unfollowed := true, recurses := true, apart := false, narrowed := true }
def FnWritesUptoSaid : Prop := fnWritesUptoRow.holds Tryz.pinned (OpenSpec.upto fnWritesSpec)

/-- 'laws.FnExactSwitchOn', WHERE WHAT IT READS IS OF BULK AT MOST 1048576: true; the input reads as it did. -/
def fnExactSwitchOnUptoRow : OpenClaim := { program := "ytfafbojaeedhfaagreat", sum := "2fd07ddd83be959e65df465cfdbccda9e900c9e930c7ad2262953a344509a91d", func := "loop.example/g00089/laws.FnExactSwitchOn", spec := "fnExactSwitchOn", unfollowed := true, recurses := true, apart := false, narrowed := true }
def FnExactSwitchOnUptoSaid : Prop := fnExactSwitchOnUptoRow.holds Tryz.pinned (OpenSpec.upto fnExactSwitchOnSpec)

/-- 'laws.FnExactSwitchOff', WHERE WHAT IT READS IS OF BULK AT MOST 1048576: true; the input reads as it did. -/
def fnExactSwitchOffUptoRow : OpenClaim := { program := "ytfafbojaeedhfaagreat", sum := "2fd07ddd83be959e65df465cfdbccda9e900c9e930c7ad2262953a344509a91d", func := "loop.example/g00089/laws.FnExactSwitchOff", spec := "fnExactSwitchOff", unfollowed := true, recurses := true, apart := false, narrowed := true }
def FnExactSwitchOffUptoSaid : Prop := fnExactSwitchOffUptoRow.holds Tryz.pinned (OpenSpec.upto fnExactSwitchOffSpec)

/-- 'laws.FnExactReadBlock', WHERE WHAT IT READS IS OF BULK AT MOST 1048576: true; the input reads as it did. -/
def fnExactReadBlockUptoRow : OpenClaim := { program := "ytfafbojaeedhfaagreat", sum := "2fd07ddd83be959e65df465cfdbccda9e900c9e930c7ad2262953a344509a91d", func := "loop.example/g00089/laws.FnExactReadBlock", spec := "fnExactReadBlock", unfollowed := true, recurses := true, apart := false, narrowed := true }
def FnExactReadBlockUptoSaid : Prop := fnExactReadBlockUptoRow.holds Tryz.pinned (OpenSpec.upto fnExactReadBlockSpec)

/-- 'laws.FnExactWriteBlock', WHERE WHAT IT READS IS OF BULK AT MOST 1048576: true; the input reads as it did. -/
def fnExactWriteBlockUptoRow : OpenClaim := { program := "ytfafbojaeedhfaagreat", sum := "2fd07ddd83be959e65df465cfdbccda9e900c9e930c7ad2262953a344509a91d", func := "loop.example/g00089/laws.FnExactWriteBlock", spec := "fnExactWriteBlock", inPlace := ["(*internal/sync.Mutex).Lock", "internal/race.Disable", "sync/atomic.CompareAndSwapInt32", "internal/race.Enable", "internal/race.Acquire", "(*internal/sync.Mutex).lockSlow", "internal/sync.runtime_canSpin", "internal/sync.runtime_doSpin", "internal/sync.throw", "internal/sync.runtime_nanotime", "internal/sync.runtime_SemacquireMutex", "sync/atomic.AddInt32", "(*internal/sync.Mutex).Unlock", "internal/race.ReleaseMerge", "(*internal/sync.Mutex).unlockSlow", "internal/sync.fatal", "internal/sync.runtime_Semrelease", "sync/atomic.LoadUint32", "sync/atomic.StoreUint32"], unfollowed := true, recurses := true, apart := false, narrowed := true }
def FnExactWriteBlockUptoSaid : Prop := fnExactWriteBlockUptoRow.holds Tryz.pinned (OpenSpec.upto fnExactWriteBlockSpec)

/-- 'laws.FnExactTrustDrive', WHERE WHAT IT READS IS OF BULK AT MOST 1048576: true; the input reads as it did. -/
def fnExactTrustDriveUptoRow : OpenClaim := { program := "ytfafbojaeedhfaagreat", sum := "2fd07ddd83be959e65df465cfdbccda9e900c9e930c7ad2262953a344509a91d", func := "loop.example/g00089/laws.FnExactTrustDrive", spec := "fnExactTrustDrive", inPlace := ["(*internal/sync.Mutex).Lock", "internal/race.Disable", "sync/atomic.CompareAndSwapInt32", "internal/race.Enable", "internal/race.Acquire", "(*internal/sync.Mutex).lockSlow", "internal/sync.runtime_canSpin", "internal/sync.runtime_doSpin", "internal/sync.throw", "internal/sync.runtime_nanotime", "internal/sync.runtime_SemacquireMutex", "sync/atomic.AddInt32", "(*internal/sync.Mutex).Unlock", "internal/race.ReleaseMerge", "(*internal/sync.Mutex).unlockSlow", "internal/sync.fatal", "internal/sync.runtime_Semrelease", "sync/atomic.LoadUint32", "sync/atomic.StoreUint32"], unfollowed := true, recurses := true, apart := false, narrowed := true }
def FnExactTrustDriveUptoSaid : Prop := fnExactTrustDriveUptoRow.holds Tryz.pinned (OpenSpec.upto fnExactTrustDriveSpec)

/-- 'laws.FnExactAppendRec', WHERE WHAT IT READS IS OF BULK AT MOST 1048576: true; the input reads as it did. -/
def fnExactAppendRecUptoRow : OpenClaim := { program := "ytfafbojaeedhfaagreat", sum := "2fd07ddd83be959e65df465cfdbccda9e900c9e930c7ad2262953a344509a91d", func := "loop.example/g00089/laws.FnExactAppendRec", spec := "fnExactAppendRec", inPlace := ["(*internal/sync.Mutex).Lock", "internal/race.Disable", "sync/atomic.CompareAndSwapInt32", "internal/race.Enable", "internal/race.Acquire", "(*internal/sync.Mutex).lockSlow", "internal/sync.runtime_canSpin", "internal/sync.runtime_doSpin", "internal/sync.throw", "internal/sync.runtime_nanotime", "internal/sync.runtime_SemacquireMutex", "sync/atomic.AddInt32", "(*internal/sync.Mutex).Unlock", "internal/race.ReleaseMerge", "(*internal/sync.Mutex).unlockSlow", "internal/sync.fatal", "internal/sync.runtime_Semrelease", "sync/atomic.LoadUint32", "sync/atomic.StoreUint32"], unfollowed := true, recurses := true, apart := false, narrowed := true }
def FnExactAppendRecUptoSaid : Prop := fnExactAppendRecUptoRow.holds Tryz.pinned (OpenSpec.upto fnExactAppendRecSpec)

/-- 'laws.FnExactStrikeRecs', WHERE WHAT IT READS IS OF BULK AT MOST 1048576: true; the input reads as it did. -/
def fnExactStrikeRecsUptoRow : OpenClaim := { program := "ytfafbojaeedhfaagreat", sum := "2fd07ddd83be959e65df465cfdbccda9e900c9e930c7ad2262953a344509a91d", func := "loop.example/g00089/laws.FnExactStrikeRecs", spec := "fnExactStrikeRecs", inPlace := ["(*internal/sync.Mutex).Lock", "internal/race.Disable", "sync/atomic.CompareAndSwapInt32", "internal/race.Enable", "internal/race.Acquire", "(*internal/sync.Mutex).lockSlow", "internal/sync.runtime_canSpin", "internal/sync.runtime_doSpin", "internal/sync.throw", "internal/sync.runtime_nanotime", "internal/sync.runtime_SemacquireMutex", "sync/atomic.AddInt32", "(*internal/sync.Mutex).Unlock", "internal/race.ReleaseMerge", "(*internal/sync.Mutex).unlockSlow", "internal/sync.fatal", "internal/sync.runtime_Semrelease", "sync/atomic.LoadUint32", "sync/atomic.StoreUint32"], unfollowed := true, recurses := true, apart := false, narrowed := true }
def FnExactStrikeRecsUptoSaid : Prop := fnExactStrikeRecsUptoRow.holds Tryz.pinned (OpenSpec.upto fnExactStrikeRecsSpec)

/-- 'laws.FnExactWipeDrive', WHERE WHAT IT READS IS OF BULK AT MOST 1048576: true; the input reads as it did. -/
def fnExactWipeDriveUptoRow : OpenClaim := { program := "ytfafbojaeedhfaagreat", sum := "2fd07ddd83be959e65df465cfdbccda9e900c9e930c7ad2262953a344509a91d", func := "loop.example/g00089/laws.FnExactWipeDrive", spec := "fnExactWipeDrive", unfollowed := true, recurses := true, apart := false, narrowed := true }
def FnExactWipeDriveUptoSaid : Prop := fnExactWipeDriveUptoRow.holds Tryz.pinned (OpenSpec.upto fnExactWipeDriveSpec)

/-- 'laws.FnExactWipeTape', WHERE WHAT IT READS IS OF BULK AT MOST 1048576: true; the input reads as it did. -/
def fnExactWipeTapeUptoRow : OpenClaim := { program := "ytfafbojaeedhfaagreat", sum := "2fd07ddd83be959e65df465cfdbccda9e900c9e930c7ad2262953a344509a91d", func := "loop.example/g00089/laws.FnExactWipeTape", spec := "fnExactWipeTape", unfollowed := true, recurses := true, apart := false, narrowed := true }
def FnExactWipeTapeUptoSaid : Prop := fnExactWipeTapeUptoRow.holds Tryz.pinned (OpenSpec.upto fnExactWipeTapeSpec)

/-- 'laws.FnExactCutPower', WHERE WHAT IT READS IS OF BULK AT MOST 1048576: true; the input reads as it did. -/
def fnExactCutPowerUptoRow : OpenClaim := { program := "ytfafbojaeedhfaagreat", sum := "2fd07ddd83be959e65df465cfdbccda9e900c9e930c7ad2262953a344509a91d", func := "loop.example/g00089/laws.FnExactCutPower", spec := "fnExactCutPower", unfollowed := true, recurses := true, apart := false, narrowed := true }
def FnExactCutPowerUptoSaid : Prop := fnExactCutPowerUptoRow.holds Tryz.pinned (OpenSpec.upto fnExactCutPowerSpec)

/-- 'laws.FnExactRaisePower', WHERE WHAT IT READS IS OF BULK AT MOST 1048576: true; the input reads as it did. -/
def fnExactRaisePowerUptoRow : OpenClaim := { program := "ytfafbojaeedhfaagreat", sum := "2fd07ddd83be959e65df465cfdbccda9e900c9e930c7ad2262953a344509a91d", func := "loop.example/g00089/laws.FnExactRaisePower", spec := "fnExactRaisePower", unfollowed := true, recurses := true, apart := false, narrowed := true }
def FnExactRaisePowerUptoSaid : Prop := fnExactRaisePowerUptoRow.holds Tryz.pinned (OpenSpec.upto fnExactRaisePowerSpec)

end Rows
end Go.Proofs.YtfafbojaeedhfaaGreat
