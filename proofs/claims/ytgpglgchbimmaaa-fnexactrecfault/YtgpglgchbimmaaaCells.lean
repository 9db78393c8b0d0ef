/- Cells of structs that hold slices; how much they hold; their marks. -/
import Derived.Test.YtgpglgchbimmaaaLay7
import Derived.Test.YtgpglgchbimmaaaWorldD
import Derived.Test.YtgpglgchbimmaaaMarkT
namespace Go.Proofs.Ytgpglgchbimmaaa
open Go.RowKit F256
set_option linter.unusedVariables false
set_option linter.unusedSimpArgs false
theorem Block_rd {w : World} {hi : Nat} {d : BlockD} {cs : List Value} (h : layBlock.rd w hi d cs) : ∃ ao1 cap1, cs = [.int .i64 d.stamp, .slice ao1 d.bytes.1 cap1] ∧ layBytes.rd w hi d.bytes [.slice ao1 d.bytes.1 cap1] ∧ (-9223372036854775808 ≤ d.stamp ∧ d.stamp ≤ 9223372036854775807) := by
  obtain ⟨c0, r0, rfl, h0, h1⟩ := h
  obtain ⟨rfl, k0⟩ := h0
  obtain ⟨ao1, cap1, rfl⟩ := bytes_form h1
  exact ⟨ao1, cap1, rfl, h1, k0⟩
theorem Block_own {w : World} {d : BlockD} {cs : List Value} {L : List Nat} (h : layBlock.own w d cs L) : ∃ ao1 cap1 K1, cs = [.int .i64 d.stamp, .slice ao1 d.bytes.1 cap1] ∧ L = K1 ∧ layBytes.own w d.bytes [.slice ao1 d.bytes.1 cap1] K1 ∧ (-9223372036854775808 ≤ d.stamp ∧ d.stamp ≤ 9223372036854775807) := by
  obtain ⟨c0, r0, L0, M0, rfl, rfl, h0, h1⟩ := h
  obtain ⟨rfl, k0, rfl⟩ := h0
  obtain ⟨ao1, cap1, rfl⟩ := bytes_formO h1
  exact ⟨ao1, cap1, _, rfl, rfl, h1, k0⟩
theorem Block_cellsO {w : World} {d : BlockD} {cs : List Value} {L : List Nat} (h : layBlock.own w d cs L) : ∃ ao1 cap1, cs = [.int .i64 d.stamp, .slice ao1 d.bytes.1 cap1] := by
  obtain ⟨ao1, cap1, K1, rfl, -⟩ := Block_own h
  exact ⟨ao1, cap1, rfl⟩
theorem Block_cells {w : World} {lo hi : Nat} {d : BlockD} {cs : List Value} (h : OwnT layBlock w lo hi d cs) : ∃ ao1 cap1, cs = [.int .i64 d.stamp, .slice ao1 d.bytes.1 cap1] := by
  obtain ⟨L, h1, -⟩ := h
  exact Block_cellsO h1
theorem Block_mk {w : World} (d : BlockD) {ao1 : Option Addr} {cap1 : Nat} {K1 : List Nat} (h1 : layBytes.own w d.bytes [.slice ao1 d.bytes.1 cap1] K1) (k0 : (-9223372036854775808 ≤ d.stamp ∧ d.stamp ≤ 9223372036854775807)) : layBlock.own w d [.int .i64 d.stamp, .slice ao1 d.bytes.1 cap1] (K1) := ⟨_, _, [], K1, rfl, rfl, ⟨rfl, k0, rfl⟩, h1⟩
def szBlockD (d : BlockD) : Nat := lenD d.bytes
def cvBlockD (d : BlockD) : Nat := lenD d.bytes
def mkvBlockD (j : Nat) (d : BlockD) : BlockD := ⟨d.stamp, mkBytes (j) d.bytes⟩
def cBlockD (d : BlockD) : Nat := 1 + lenD d.bytes
def mkBlockD (j : Nat) (d : BlockD) : BlockD := ⟨((j : Nat) : Int), mkBytes (j + 1) d.bytes⟩
theorem Drive_rd {w : World} {hi : Nat} {d : DriveD} {cs : List Value} (h : layDrive.rd w hi d cs) : ∃ ao1 cap1, cs = [.bool d.wiped, .slice ao1 d.blocks.1 cap1] ∧ (layBlock.slice 88).rd w hi d.blocks [.slice ao1 d.blocks.1 cap1] := by
  obtain ⟨c0, r0, rfl, h0, h1⟩ := h
  obtain ⟨rfl, k0⟩ := h0
  obtain ⟨ao1, cap1, rfl⟩ := sl_form h1
  exact ⟨ao1, cap1, rfl, h1⟩
theorem Drive_own {w : World} {d : DriveD} {cs : List Value} {L : List Nat} (h : layDrive.own w d cs L) : ∃ ao1 cap1 K1, cs = [.bool d.wiped, .slice ao1 d.blocks.1 cap1] ∧ L = K1 ∧ (layBlock.slice 88).own w d.blocks [.slice ao1 d.blocks.1 cap1] K1 := by
  obtain ⟨c0, r0, L0, M0, rfl, rfl, h0, h1⟩ := h
  obtain ⟨rfl, k0, rfl⟩ := h0
  obtain ⟨ao1, cap1, rfl⟩ := sl_formO h1
  exact ⟨ao1, cap1, _, rfl, rfl, h1⟩
theorem Drive_cellsO {w : World} {d : DriveD} {cs : List Value} {L : List Nat} (h : layDrive.own w d cs L) : ∃ ao1 cap1, cs = [.bool d.wiped, .slice ao1 d.blocks.1 cap1] := by
  obtain ⟨ao1, cap1, K1, rfl, -⟩ := Drive_own h
  exact ⟨ao1, cap1, rfl⟩
theorem Drive_cells {w : World} {lo hi : Nat} {d : DriveD} {cs : List Value} (h : OwnT layDrive w lo hi d cs) : ∃ ao1 cap1, cs = [.bool d.wiped, .slice ao1 d.blocks.1 cap1] := by
  obtain ⟨L, h1, -⟩ := h
  exact Drive_cellsO h1
theorem Drive_mk {w : World} (d : DriveD) {ao1 : Option Addr} {cap1 : Nat} {K1 : List Nat} (h1 : (layBlock.slice 88).own w d.blocks [.slice ao1 d.blocks.1 cap1] K1) : layDrive.own w d [.bool d.wiped, .slice ao1 d.blocks.1 cap1] (K1) := ⟨_, _, [], K1, rfl, rfl, ⟨rfl, trivial, rfl⟩, h1⟩
def szDriveD (d : DriveD) : Nat := (szSl szBlockD) d.blocks
def cvDriveD (d : DriveD) : Nat := (cSl cBlockD) d.blocks
def mkvDriveD (j : Nat) (d : DriveD) : DriveD := ⟨d.wiped, (mkSl cBlockD mkBlockD) (j) d.blocks⟩
def cDriveD (d : DriveD) : Nat := 1 + (cSl cBlockD) d.blocks
def mkDriveD (j : Nat) (d : DriveD) : DriveD := ⟨decide ((j) % 3 = 0), (mkSl cBlockD mkBlockD) (j + 1) d.blocks⟩
theorem Rec_rd {w : World} {hi : Nat} {d : RecD} {cs : List Value} (h : layRec.rd w hi d cs) : ∃ ao6 cap6 ao7 cap7 ao8 cap8, cs = [.int .i64 d.kind, .int .i64 d.seq, .string d.name, .int .i64 d.length, .int .i64 d.group, .int .i64 d.row, .slice ao6 d.rows.1 cap6, .slice ao7 d.data.1 cap7, .slice ao8 d.delta.1 cap8] ∧ layInts.rd w hi d.rows [.slice ao6 d.rows.1 cap6] ∧ layBytes.rd w hi d.data [.slice ao7 d.data.1 cap7] ∧ layBytes.rd w hi d.delta [.slice ao8 d.delta.1 cap8] ∧ (-9223372036854775808 ≤ d.kind ∧ d.kind ≤ 9223372036854775807) ∧ (-9223372036854775808 ≤ d.seq ∧ d.seq ≤ 9223372036854775807) ∧ d.name.size ≤ maxLen ∧ (-9223372036854775808 ≤ d.length ∧ d.length ≤ 9223372036854775807) ∧ (-9223372036854775808 ≤ d.group ∧ d.group ≤ 9223372036854775807) ∧ (-9223372036854775808 ≤ d.row ∧ d.row ≤ 9223372036854775807) := by
  obtain ⟨c0, r0, rfl, h0, c1, r1, rfl, h1, c2, r2, rfl, h2, c3, r3, rfl, h3, c4, r4, rfl, h4, c5, r5, rfl, h5, c6, r6, rfl, h6, c7, r7, rfl, h7, h8⟩ := h
  obtain ⟨rfl, k0⟩ := h0
  obtain ⟨rfl, k1⟩ := h1
  obtain ⟨rfl, k2⟩ := h2
  obtain ⟨rfl, k3⟩ := h3
  obtain ⟨rfl, k4⟩ := h4
  obtain ⟨rfl, k5⟩ := h5
  obtain ⟨ao6, cap6, rfl⟩ := ints_form h6
  obtain ⟨ao7, cap7, rfl⟩ := bytes_form h7
  obtain ⟨ao8, cap8, rfl⟩ := bytes_form h8
  exact ⟨ao6, cap6, ao7, cap7, ao8, cap8, rfl, h6, h7, h8, k0, k1, k2, k3, k4, k5⟩
theorem Rec_own {w : World} {d : RecD} {cs : List Value} {L : List Nat} (h : layRec.own w d cs L) : ∃ ao6 cap6 ao7 cap7 ao8 cap8 K6 K7 K8, cs = [.int .i64 d.kind, .int .i64 d.seq, .string d.name, .int .i64 d.length, .int .i64 d.group, .int .i64 d.row, .slice ao6 d.rows.1 cap6, .slice ao7 d.data.1 cap7, .slice ao8 d.delta.1 cap8] ∧ L = K6 ++ (K7 ++ K8) ∧ layInts.own w d.rows [.slice ao6 d.rows.1 cap6] K6 ∧ layBytes.own w d.data [.slice ao7 d.data.1 cap7] K7 ∧ layBytes.own w d.delta [.slice ao8 d.delta.1 cap8] K8 ∧ (-9223372036854775808 ≤ d.kind ∧ d.kind ≤ 9223372036854775807) ∧ (-9223372036854775808 ≤ d.seq ∧ d.seq ≤ 9223372036854775807) ∧ d.name.size ≤ maxLen ∧ (-9223372036854775808 ≤ d.length ∧ d.length ≤ 9223372036854775807) ∧ (-9223372036854775808 ≤ d.group ∧ d.group ≤ 9223372036854775807) ∧ (-9223372036854775808 ≤ d.row ∧ d.row ≤ 9223372036854775807) := by
  obtain ⟨c0, r0, L0, M0, rfl, rfl, h0, c1, r1, L1, M1, rfl, rfl, h1, c2, r2, L2, M2, rfl, rfl, h2, c3, r3, L3, M3, rfl, rfl, h3, c4, r4, L4, M4, rfl, rfl, h4, c5, r5, L5, M5, rfl, rfl, h5, c6, r6, L6, M6, rfl, rfl, h6, c7, r7, L7, M7, rfl, rfl, h7, h8⟩ := h
  obtain ⟨rfl, k0, rfl⟩ := h0
  obtain ⟨rfl, k1, rfl⟩ := h1
  obtain ⟨rfl, k2, rfl⟩ := h2
  obtain ⟨rfl, k3, rfl⟩ := h3
  obtain ⟨rfl, k4, rfl⟩ := h4
  obtain ⟨rfl, k5, rfl⟩ := h5
  obtain ⟨ao6, cap6, rfl⟩ := ints_formO h6
  obtain ⟨ao7, cap7, rfl⟩ := bytes_formO h7
  obtain ⟨ao8, cap8, rfl⟩ := bytes_formO h8
  exact ⟨ao6, cap6, ao7, cap7, ao8, cap8, L6, L7, _, rfl, rfl, h6, h7, h8, k0, k1, k2, k3, k4, k5⟩
theorem Rec_cellsO {w : World} {d : RecD} {cs : List Value} {L : List Nat} (h : layRec.own w d cs L) : ∃ ao6 cap6 ao7 cap7 ao8 cap8, cs = [.int .i64 d.kind, .int .i64 d.seq, .string d.name, .int .i64 d.length, .int .i64 d.group, .int .i64 d.row, .slice ao6 d.rows.1 cap6, .slice ao7 d.data.1 cap7, .slice ao8 d.delta.1 cap8] := by
  obtain ⟨ao6, cap6, ao7, cap7, ao8, cap8, K6, K7, K8, rfl, -⟩ := Rec_own h
  exact ⟨ao6, cap6, ao7, cap7, ao8, cap8, rfl⟩
theorem Rec_cells {w : World} {lo hi : Nat} {d : RecD} {cs : List Value} (h : OwnT layRec w lo hi d cs) : ∃ ao6 cap6 ao7 cap7 ao8 cap8, cs = [.int .i64 d.kind, .int .i64 d.seq, .string d.name, .int .i64 d.length, .int .i64 d.group, .int .i64 d.row, .slice ao6 d.rows.1 cap6, .slice ao7 d.data.1 cap7, .slice ao8 d.delta.1 cap8] := by
  obtain ⟨L, h1, -⟩ := h
  exact Rec_cellsO h1
theorem Rec_mk {w : World} (d : RecD) {ao6 ao7 ao8 : Option Addr} {cap6 cap7 cap8 : Nat} {K6 K7 K8 : List Nat} (h6 : layInts.own w d.rows [.slice ao6 d.rows.1 cap6] K6) (h7 : layBytes.own w d.data [.slice ao7 d.data.1 cap7] K7) (h8 : layBytes.own w d.delta [.slice ao8 d.delta.1 cap8] K8) (k0 : (-9223372036854775808 ≤ d.kind ∧ d.kind ≤ 9223372036854775807)) (k1 : (-9223372036854775808 ≤ d.seq ∧ d.seq ≤ 9223372036854775807)) (k2 : d.name.size ≤ maxLen) (k3 : (-9223372036854775808 ≤ d.length ∧ d.length ≤ 9223372036854775807)) (k4 : (-9223372036854775808 ≤ d.group ∧ d.group ≤ 9223372036854775807)) (k5 : (-9223372036854775808 ≤ d.row ∧ d.row ≤ 9223372036854775807)) : layRec.own w d [.int .i64 d.kind, .int .i64 d.seq, .string d.name, .int .i64 d.length, .int .i64 d.group, .int .i64 d.row, .slice ao6 d.rows.1 cap6, .slice ao7 d.data.1 cap7, .slice ao8 d.delta.1 cap8] (K6 ++ (K7 ++ K8)) := ⟨_, _, [], (K6 ++ (K7 ++ K8)), rfl, rfl, ⟨rfl, k0, rfl⟩, ⟨_, _, [], (K6 ++ (K7 ++ K8)), rfl, rfl, ⟨rfl, k1, rfl⟩, ⟨_, _, [], (K6 ++ (K7 ++ K8)), rfl, rfl, ⟨rfl, k2, rfl⟩, ⟨_, _, [], (K6 ++ (K7 ++ K8)), rfl, rfl, ⟨rfl, k3, rfl⟩, ⟨_, _, [], (K6 ++ (K7 ++ K8)), rfl, rfl, ⟨rfl, k4, rfl⟩, ⟨_, _, [], (K6 ++ (K7 ++ K8)), rfl, rfl, ⟨rfl, k5, rfl⟩, ⟨_, _, K6, (K7 ++ K8), rfl, rfl, h6, ⟨_, _, K7, K8, rfl, rfl, h7, h8⟩⟩⟩⟩⟩⟩⟩⟩
def szRecD (d : RecD) : Nat := d.name.size + lenD d.rows + lenD d.data + lenD d.delta
def cvRecD (d : RecD) : Nat := lenD d.rows + lenD d.data + lenD d.delta
def mkvRecD (j : Nat) (d : RecD) : RecD := ⟨d.kind, d.seq, d.name, d.length, d.group, d.row, mkInts (j) d.rows, mkBytes (j + lenD d.rows) d.data, mkBytes (j + lenD d.rows + lenD d.data) d.delta⟩
def cRecD (d : RecD) : Nat := 6 + lenD d.rows + lenD d.data + lenD d.delta
def mkRecD (j : Nat) (d : RecD) : RecD := ⟨((j : Nat) : Int), ((j + 1 : Nat) : Int), markT (j + 2), ((j + 3 : Nat) : Int), ((j + 4 : Nat) : Int), ((j + 5 : Nat) : Int), mkInts (j + 6) d.rows, mkBytes (j + 6 + lenD d.rows) d.data, mkBytes (j + 6 + lenD d.rows + lenD d.data) d.delta⟩
theorem Tape_rd {w : World} {hi : Nat} {d : TapeD} {cs : List Value} (h : layTape.rd w hi d cs) : ∃ ao1 cap1, cs = [.bool d.wiped, .slice ao1 d.recs.1 cap1] ∧ (layRec.slice 45).rd w hi d.recs [.slice ao1 d.recs.1 cap1] := by
  obtain ⟨c0, r0, rfl, h0, h1⟩ := h
  obtain ⟨rfl, k0⟩ := h0
  obtain ⟨ao1, cap1, rfl⟩ := sl_form h1
  exact ⟨ao1, cap1, rfl, h1⟩
theorem Tape_own {w : World} {d : TapeD} {cs : List Value} {L : List Nat} (h : layTape.own w d cs L) : ∃ ao1 cap1 K1, cs = [.bool d.wiped, .slice ao1 d.recs.1 cap1] ∧ L = K1 ∧ (layRec.slice 45).own w d.recs [.slice ao1 d.recs.1 cap1] K1 := by
  obtain ⟨c0, r0, L0, M0, rfl, rfl, h0, h1⟩ := h
  obtain ⟨rfl, k0, rfl⟩ := h0
  obtain ⟨ao1, cap1, rfl⟩ := sl_formO h1
  exact ⟨ao1, cap1, _, rfl, rfl, h1⟩
theorem Tape_cellsO {w : World} {d : TapeD} {cs : List Value} {L : List Nat} (h : layTape.own w d cs L) : ∃ ao1 cap1, cs = [.bool d.wiped, .slice ao1 d.recs.1 cap1] := by
  obtain ⟨ao1, cap1, K1, rfl, -⟩ := Tape_own h
  exact ⟨ao1, cap1, rfl⟩
theorem Tape_cells {w : World} {lo hi : Nat} {d : TapeD} {cs : List Value} (h : OwnT layTape w lo hi d cs) : ∃ ao1 cap1, cs = [.bool d.wiped, .slice ao1 d.recs.1 cap1] := by
  obtain ⟨L, h1, -⟩ := h
  exact Tape_cellsO h1
theorem Tape_mk {w : World} (d : TapeD) {ao1 : Option Addr} {cap1 : Nat} {K1 : List Nat} (h1 : (layRec.slice 45).own w d.recs [.slice ao1 d.recs.1 cap1] K1) : layTape.own w d [.bool d.wiped, .slice ao1 d.recs.1 cap1] (K1) := ⟨_, _, [], K1, rfl, rfl, ⟨rfl, trivial, rfl⟩, h1⟩
def szTapeD (d : TapeD) : Nat := (szSl szRecD) d.recs
def cvTapeD (d : TapeD) : Nat := (cSl cRecD) d.recs
def mkvTapeD (j : Nat) (d : TapeD) : TapeD := ⟨d.wiped, (mkSl cRecD mkRecD) (j) d.recs⟩
def cTapeD (d : TapeD) : Nat := 1 + (cSl cRecD) d.recs
def mkTapeD (j : Nat) (d : TapeD) : TapeD := ⟨decide ((j) % 3 = 0), (mkSl cRecD mkRecD) (j + 1) d.recs⟩
theorem World_rd {w : World} {hi : Nat} {d : WorldD} {cs : List Value} (h : layWorld.rd w hi d cs) : ∃ ao1 cap1 ao2 cap2 ao3 cap3, cs = [.int .i64 (d.shape 0), .int .i64 (d.shape 1), .int .i64 (d.shape 2), .int .i64 (d.shape 3), .int .i64 (d.shape 4), .int .i64 (d.shape 5), .int .i64 (d.shape 6), .int .i64 (d.shape 7), .int .i64 (d.shape 8), .slice ao1 d.groups.1 cap1, .slice ao2 d.on.1 cap2, .slice ao3 d.tapes.1 cap3, .int .i64 d.writes, .int .i64 d.stop, .bool d.down] ∧ ((layDrive.slice 86).slice 83).rd w hi d.groups [.slice ao1 d.groups.1 cap1] ∧ layInts.rd w hi d.on [.slice ao2 d.on.1 cap2] ∧ (layTape.slice 57).rd w hi d.tapes [.slice ao3 d.tapes.1 cap3] ∧ (∀ i, -9223372036854775808 ≤ d.shape i ∧ d.shape i ≤ 9223372036854775807) ∧ (-9223372036854775808 ≤ d.writes ∧ d.writes ≤ 9223372036854775807) ∧ (-9223372036854775808 ≤ d.stop ∧ d.stop ≤ 9223372036854775807) := by
  obtain ⟨c0, r0, rfl, h0, c1, r1, rfl, h1, c2, r2, rfl, h2, c3, r3, rfl, h3, c4, r4, rfl, h4, c5, r5, rfl, h5, h6⟩ := h
  obtain ⟨rfl, k0⟩ := h0
  obtain ⟨ao1, cap1, rfl⟩ := sl_form h1
  obtain ⟨ao2, cap2, rfl⟩ := ints_form h2
  obtain ⟨ao3, cap3, rfl⟩ := sl_form h3
  obtain ⟨rfl, k4⟩ := h4
  obtain ⟨rfl, k5⟩ := h5
  obtain ⟨rfl, k6⟩ := h6
  exact ⟨ao1, cap1, ao2, cap2, ao3, cap3, rfl, h1, h2, h3, k0, k4, k5⟩
theorem World_own {w : World} {d : WorldD} {cs : List Value} {L : List Nat} (h : layWorld.own w d cs L) : ∃ ao1 cap1 ao2 cap2 ao3 cap3 K1 K2 K3, cs = [.int .i64 (d.shape 0), .int .i64 (d.shape 1), .int .i64 (d.shape 2), .int .i64 (d.shape 3), .int .i64 (d.shape 4), .int .i64 (d.shape 5), .int .i64 (d.shape 6), .int .i64 (d.shape 7), .int .i64 (d.shape 8), .slice ao1 d.groups.1 cap1, .slice ao2 d.on.1 cap2, .slice ao3 d.tapes.1 cap3, .int .i64 d.writes, .int .i64 d.stop, .bool d.down] ∧ L = K1 ++ (K2 ++ (K3 ++ [])) ∧ ((layDrive.slice 86).slice 83).own w d.groups [.slice ao1 d.groups.1 cap1] K1 ∧ layInts.own w d.on [.slice ao2 d.on.1 cap2] K2 ∧ (layTape.slice 57).own w d.tapes [.slice ao3 d.tapes.1 cap3] K3 ∧ (∀ i, -9223372036854775808 ≤ d.shape i ∧ d.shape i ≤ 9223372036854775807) ∧ (-9223372036854775808 ≤ d.writes ∧ d.writes ≤ 9223372036854775807) ∧ (-9223372036854775808 ≤ d.stop ∧ d.stop ≤ 9223372036854775807) := by
  obtain ⟨c0, r0, L0, M0, rfl, rfl, h0, c1, r1, L1, M1, rfl, rfl, h1, c2, r2, L2, M2, rfl, rfl, h2, c3, r3, L3, M3, rfl, rfl, h3, c4, r4, L4, M4, rfl, rfl, h4, c5, r5, L5, M5, rfl, rfl, h5, h6⟩ := h
  obtain ⟨rfl, k0, rfl⟩ := h0
  obtain ⟨ao1, cap1, rfl⟩ := sl_formO h1
  obtain ⟨ao2, cap2, rfl⟩ := ints_formO h2
  obtain ⟨ao3, cap3, rfl⟩ := sl_formO h3
  obtain ⟨rfl, k4, rfl⟩ := h4
  obtain ⟨rfl, k5, rfl⟩ := h5
  obtain ⟨rfl, k6, rfl⟩ := h6
  exact ⟨ao1, cap1, ao2, cap2, ao3, cap3, L1, L2, L3, rfl, rfl, h1, h2, h3, k0, k4, k5⟩
theorem World_cellsO {w : World} {d : WorldD} {cs : List Value} {L : List Nat} (h : layWorld.own w d cs L) : ∃ ao1 cap1 ao2 cap2 ao3 cap3, cs = [.int .i64 (d.shape 0), .int .i64 (d.shape 1), .int .i64 (d.shape 2), .int .i64 (d.shape 3), .int .i64 (d.shape 4), .int .i64 (d.shape 5), .int .i64 (d.shape 6), .int .i64 (d.shape 7), .int .i64 (d.shape 8), .slice ao1 d.groups.1 cap1, .slice ao2 d.on.1 cap2, .slice ao3 d.tapes.1 cap3, .int .i64 d.writes, .int .i64 d.stop, .bool d.down] := by
  obtain ⟨ao1, cap1, ao2, cap2, ao3, cap3, K1, K2, K3, rfl, -⟩ := World_own h
  exact ⟨ao1, cap1, ao2, cap2, ao3, cap3, rfl⟩
theorem World_cells {w : World} {lo hi : Nat} {d : WorldD} {cs : List Value} (h : OwnT layWorld w lo hi d cs) : ∃ ao1 cap1 ao2 cap2 ao3 cap3, cs = [.int .i64 (d.shape 0), .int .i64 (d.shape 1), .int .i64 (d.shape 2), .int .i64 (d.shape 3), .int .i64 (d.shape 4), .int .i64 (d.shape 5), .int .i64 (d.shape 6), .int .i64 (d.shape 7), .int .i64 (d.shape 8), .slice ao1 d.groups.1 cap1, .slice ao2 d.on.1 cap2, .slice ao3 d.tapes.1 cap3, .int .i64 d.writes, .int .i64 d.stop, .bool d.down] := by
  obtain ⟨L, h1, -⟩ := h
  exact World_cellsO h1
theorem World_mk {w : World} (d : WorldD) {ao1 ao2 ao3 : Option Addr} {cap1 cap2 cap3 : Nat} {K1 K2 K3 : List Nat} (h1 : ((layDrive.slice 86).slice 83).own w d.groups [.slice ao1 d.groups.1 cap1] K1) (h2 : layInts.own w d.on [.slice ao2 d.on.1 cap2] K2) (h3 : (layTape.slice 57).own w d.tapes [.slice ao3 d.tapes.1 cap3] K3) (k0 : (∀ i, -9223372036854775808 ≤ d.shape i ∧ d.shape i ≤ 9223372036854775807)) (k4 : (-9223372036854775808 ≤ d.writes ∧ d.writes ≤ 9223372036854775807)) (k5 : (-9223372036854775808 ≤ d.stop ∧ d.stop ≤ 9223372036854775807)) : layWorld.own w d [.int .i64 (d.shape 0), .int .i64 (d.shape 1), .int .i64 (d.shape 2), .int .i64 (d.shape 3), .int .i64 (d.shape 4), .int .i64 (d.shape 5), .int .i64 (d.shape 6), .int .i64 (d.shape 7), .int .i64 (d.shape 8), .slice ao1 d.groups.1 cap1, .slice ao2 d.on.1 cap2, .slice ao3 d.tapes.1 cap3, .int .i64 d.writes, .int .i64 d.stop, .bool d.down] (K1 ++ (K2 ++ (K3 ++ []))) := ⟨_, _, [], (K1 ++ (K2 ++ (K3 ++ []))), rfl, rfl, ⟨rfl, k0, rfl⟩, ⟨_, _, K1, (K2 ++ (K3 ++ [])), rfl, rfl, h1, ⟨_, _, K2, (K3 ++ []), rfl, rfl, h2, ⟨_, _, K3, [], rfl, rfl, h3, ⟨_, _, [], [], rfl, rfl, ⟨rfl, k4, rfl⟩, ⟨_, _, [], [], rfl, rfl, ⟨rfl, k5, rfl⟩, ⟨rfl, trivial, rfl⟩⟩⟩⟩⟩⟩⟩
def szWorldD (d : WorldD) : Nat := (szSl (szSl szDriveD)) d.groups + lenD d.on + (szSl szTapeD) d.tapes
def cvWorldD (d : WorldD) : Nat := (cSl (cSl cDriveD)) d.groups + lenD d.on + (cSl cTapeD) d.tapes
def mkvWorldD (j : Nat) (d : WorldD) : WorldD := ⟨d.shape, (mkSl (cSl cDriveD) (mkSl cDriveD mkDriveD)) (j) d.groups, mkInts (j + (cSl (cSl cDriveD)) d.groups) d.on, (mkSl cTapeD mkTapeD) (j + (cSl (cSl cDriveD)) d.groups + lenD d.on) d.tapes, d.writes, d.stop, d.down⟩
structure WorldResultD where
  code : Int
  world : WorldD
def layWorldResult : Lay WorldResultD := (layI.two layWorld).as fun d => (d.code, d.world)
theorem WorldResult_rd {w : World} {hi : Nat} {d : WorldResultD} {cs : List Value} (h : layWorldResult.rd w hi d cs) : ∃ ao1_1 cap1_1 ao1_2 cap1_2 ao1_3 cap1_3, cs = [.int .i64 d.code, .int .i64 (d.world.shape 0), .int .i64 (d.world.shape 1), .int .i64 (d.world.shape 2), .int .i64 (d.world.shape 3), .int .i64 (d.world.shape 4), .int .i64 (d.world.shape 5), .int .i64 (d.world.shape 6), .int .i64 (d.world.shape 7), .int .i64 (d.world.shape 8), .slice ao1_1 d.world.groups.1 cap1_1, .slice ao1_2 d.world.on.1 cap1_2, .slice ao1_3 d.world.tapes.1 cap1_3, .int .i64 d.world.writes, .int .i64 d.world.stop, .bool d.world.down] ∧ layWorld.rd w hi d.world [.int .i64 (d.world.shape 0), .int .i64 (d.world.shape 1), .int .i64 (d.world.shape 2), .int .i64 (d.world.shape 3), .int .i64 (d.world.shape 4), .int .i64 (d.world.shape 5), .int .i64 (d.world.shape 6), .int .i64 (d.world.shape 7), .int .i64 (d.world.shape 8), .slice ao1_1 d.world.groups.1 cap1_1, .slice ao1_2 d.world.on.1 cap1_2, .slice ao1_3 d.world.tapes.1 cap1_3, .int .i64 d.world.writes, .int .i64 d.world.stop, .bool d.world.down] ∧ (-9223372036854775808 ≤ d.code ∧ d.code ≤ 9223372036854775807) := by
  obtain ⟨c0, r0, rfl, h0, h1⟩ := h
  obtain ⟨rfl, k0⟩ := h0
  have h1b := h1
  obtain ⟨ao1_1, cap1_1, ao1_2, cap1_2, ao1_3, cap1_3, rfl, -⟩ := World_rd h1
  clear h1b
  exact ⟨ao1_1, cap1_1, ao1_2, cap1_2, ao1_3, cap1_3, rfl, h1, k0⟩
theorem WorldResult_own {w : World} {d : WorldResultD} {cs : List Value} {L : List Nat} (h : layWorldResult.own w d cs L) : ∃ ao1_1 cap1_1 ao1_2 cap1_2 ao1_3 cap1_3 K1, cs = [.int .i64 d.code, .int .i64 (d.world.shape 0), .int .i64 (d.world.shape 1), .int .i64 (d.world.shape 2), .int .i64 (d.world.shape 3), .int .i64 (d.world.shape 4), .int .i64 (d.world.shape 5), .int .i64 (d.world.shape 6), .int .i64 (d.world.shape 7), .int .i64 (d.world.shape 8), .slice ao1_1 d.world.groups.1 cap1_1, .slice ao1_2 d.world.on.1 cap1_2, .slice ao1_3 d.world.tapes.1 cap1_3, .int .i64 d.world.writes, .int .i64 d.world.stop, .bool d.world.down] ∧ L = K1 ∧ layWorld.own w d.world [.int .i64 (d.world.shape 0), .int .i64 (d.world.shape 1), .int .i64 (d.world.shape 2), .int .i64 (d.world.shape 3), .int .i64 (d.world.shape 4), .int .i64 (d.world.shape 5), .int .i64 (d.world.shape 6), .int .i64 (d.world.shape 7), .int .i64 (d.world.shape 8), .slice ao1_1 d.world.groups.1 cap1_1, .slice ao1_2 d.world.on.1 cap1_2, .slice ao1_3 d.world.tapes.1 cap1_3, .int .i64 d.world.writes, .int .i64 d.world.stop, .bool d.world.down] K1 ∧ (-9223372036854775808 ≤ d.code ∧ d.code ≤ 9223372036854775807) := by
  obtain ⟨c0, r0, L0, M0, rfl, rfl, h0, h1⟩ := h
  obtain ⟨rfl, k0, rfl⟩ := h0
  obtain ⟨ao1_1, cap1_1, ao1_2, cap1_2, ao1_3, cap1_3, rfl⟩ := World_cellsO h1
  exact ⟨ao1_1, cap1_1, ao1_2, cap1_2, ao1_3, cap1_3, _, rfl, rfl, h1, k0⟩
theorem WorldResult_cellsO {w : World} {d : WorldResultD} {cs : List Value} {L : List Nat} (h : layWorldResult.own w d cs L) : ∃ ao1_1 cap1_1 ao1_2 cap1_2 ao1_3 cap1_3, cs = [.int .i64 d.code, .int .i64 (d.world.shape 0), .int .i64 (d.world.shape 1), .int .i64 (d.world.shape 2), .int .i64 (d.world.shape 3), .int .i64 (d.world.shape 4), .int .i64 (d.world.shape 5), .int .i64 (d.world.shape 6), .int .i64 (d.world.shape 7), .int .i64 (d.world.shape 8), .slice ao1_1 d.world.groups.1 cap1_1, .slice ao1_2 d.world.on.1 cap1_2, .slice ao1_3 d.world.tapes.1 cap1_3, .int .i64 d.world.writes, .int .i64 d.world.stop, .bool d.world.down] := by
  obtain ⟨ao1_1, cap1_1, ao1_2, cap1_2, ao1_3, cap1_3, K1, rfl, -⟩ := WorldResult_own h
  exact ⟨ao1_1, cap1_1, ao1_2, cap1_2, ao1_3, cap1_3, rfl⟩
theorem WorldResult_cells {w : World} {lo hi : Nat} {d : WorldResultD} {cs : List Value} (h : OwnT layWorldResult w lo hi d cs) : ∃ ao1_1 cap1_1 ao1_2 cap1_2 ao1_3 cap1_3, cs = [.int .i64 d.code, .int .i64 (d.world.shape 0), .int .i64 (d.world.shape 1), .int .i64 (d.world.shape 2), .int .i64 (d.world.shape 3), .int .i64 (d.world.shape 4), .int .i64 (d.world.shape 5), .int .i64 (d.world.shape 6), .int .i64 (d.world.shape 7), .int .i64 (d.world.shape 8), .slice ao1_1 d.world.groups.1 cap1_1, .slice ao1_2 d.world.on.1 cap1_2, .slice ao1_3 d.world.tapes.1 cap1_3, .int .i64 d.world.writes, .int .i64 d.world.stop, .bool d.world.down] := by
  obtain ⟨L, h1, -⟩ := h
  exact WorldResult_cellsO h1
theorem WorldResult_mk {w : World} (d : WorldResultD) {ao1_1 ao1_2 ao1_3 : Option Addr} {cap1_1 cap1_2 cap1_3 : Nat} {K1 : List Nat} (h1 : layWorld.own w d.world [.int .i64 (d.world.shape 0), .int .i64 (d.world.shape 1), .int .i64 (d.world.shape 2), .int .i64 (d.world.shape 3), .int .i64 (d.world.shape 4), .int .i64 (d.world.shape 5), .int .i64 (d.world.shape 6), .int .i64 (d.world.shape 7), .int .i64 (d.world.shape 8), .slice ao1_1 d.world.groups.1 cap1_1, .slice ao1_2 d.world.on.1 cap1_2, .slice ao1_3 d.world.tapes.1 cap1_3, .int .i64 d.world.writes, .int .i64 d.world.stop, .bool d.world.down] K1) (k0 : (-9223372036854775808 ≤ d.code ∧ d.code ≤ 9223372036854775807)) : layWorldResult.own w d [.int .i64 d.code, .int .i64 (d.world.shape 0), .int .i64 (d.world.shape 1), .int .i64 (d.world.shape 2), .int .i64 (d.world.shape 3), .int .i64 (d.world.shape 4), .int .i64 (d.world.shape 5), .int .i64 (d.world.shape 6), .int .i64 (d.world.shape 7), .int .i64 (d.world.shape 8), .slice ao1_1 d.world.groups.1 cap1_1, .slice ao1_2 d.world.on.1 cap1_2, .slice ao1_3 d.world.tapes.1 cap1_3, .int .i64 d.world.writes, .int .i64 d.world.stop, .bool d.world.down] (K1) := ⟨_, _, [], K1, rfl, rfl, ⟨rfl, k0, rfl⟩, h1⟩
def szWorldResultD (d : WorldResultD) : Nat := szWorldD d.world
def cvWorldResultD (d : WorldResultD) : Nat := cvWorldD d.world
def mkvWorldResultD (j : Nat) (d : WorldResultD) : WorldResultD := ⟨d.code, mkvWorldD (j) d.world⟩
structure BlockResultD where
  code : Int
  block : BlockD
def layBlockResult : Lay BlockResultD := (layI.two layBlock).as fun d => (d.code, d.block)
theorem BlockResult_rd {w : World} {hi : Nat} {d : BlockResultD} {cs : List Value} (h : layBlockResult.rd w hi d cs) : ∃ ao1_1 cap1_1, cs = [.int .i64 d.code, .int .i64 d.block.stamp, .slice ao1_1 d.block.bytes.1 cap1_1] ∧ layBlock.rd w hi d.block [.int .i64 d.block.stamp, .slice ao1_1 d.block.bytes.1 cap1_1] ∧ (-9223372036854775808 ≤ d.code ∧ d.code ≤ 9223372036854775807) := by
  obtain ⟨c0, r0, rfl, h0, h1⟩ := h
  obtain ⟨rfl, k0⟩ := h0
  have h1b := h1
  obtain ⟨ao1_1, cap1_1, rfl, -⟩ := Block_rd h1
  clear h1b
  exact ⟨ao1_1, cap1_1, rfl, h1, k0⟩
theorem BlockResult_own {w : World} {d : BlockResultD} {cs : List Value} {L : List Nat} (h : layBlockResult.own w d cs L) : ∃ ao1_1 cap1_1 K1, cs = [.int .i64 d.code, .int .i64 d.block.stamp, .slice ao1_1 d.block.bytes.1 cap1_1] ∧ L = K1 ∧ layBlock.own w d.block [.int .i64 d.block.stamp, .slice ao1_1 d.block.bytes.1 cap1_1] K1 ∧ (-9223372036854775808 ≤ d.code ∧ d.code ≤ 9223372036854775807) := by
  obtain ⟨c0, r0, L0, M0, rfl, rfl, h0, h1⟩ := h
  obtain ⟨rfl, k0, rfl⟩ := h0
  obtain ⟨ao1_1, cap1_1, rfl⟩ := Block_cellsO h1
  exact ⟨ao1_1, cap1_1, _, rfl, rfl, h1, k0⟩
theorem BlockResult_cellsO {w : World} {d : BlockResultD} {cs : List Value} {L : List Nat} (h : layBlockResult.own w d cs L) : ∃ ao1_1 cap1_1, cs = [.int .i64 d.code, .int .i64 d.block.stamp, .slice ao1_1 d.block.bytes.1 cap1_1] := by
  obtain ⟨ao1_1, cap1_1, K1, rfl, -⟩ := BlockResult_own h
  exact ⟨ao1_1, cap1_1, rfl⟩
theorem BlockResult_cells {w : World} {lo hi : Nat} {d : BlockResultD} {cs : List Value} (h : OwnT layBlockResult w lo hi d cs) : ∃ ao1_1 cap1_1, cs = [.int .i64 d.code, .int .i64 d.block.stamp, .slice ao1_1 d.block.bytes.1 cap1_1] := by
  obtain ⟨L, h1, -⟩ := h
  exact BlockResult_cellsO h1
theorem BlockResult_mk {w : World} (d : BlockResultD) {ao1_1 : Option Addr} {cap1_1 : Nat} {K1 : List Nat} (h1 : layBlock.own w d.block [.int .i64 d.block.stamp, .slice ao1_1 d.block.bytes.1 cap1_1] K1) (k0 : (-9223372036854775808 ≤ d.code ∧ d.code ≤ 9223372036854775807)) : layBlockResult.own w d [.int .i64 d.code, .int .i64 d.block.stamp, .slice ao1_1 d.block.bytes.1 cap1_1] (K1) := ⟨_, _, [], K1, rfl, rfl, ⟨rfl, k0, rfl⟩, h1⟩
def szBlockResultD (d : BlockResultD) : Nat := szBlockD d.block
def cvBlockResultD (d : BlockResultD) : Nat := cvBlockD d.block
def mkvBlockResultD (j : Nat) (d : BlockResultD) : BlockResultD := ⟨d.code, mkvBlockD (j) d.block⟩
end Go.Proofs.Ytgpglgchbimmaaa
