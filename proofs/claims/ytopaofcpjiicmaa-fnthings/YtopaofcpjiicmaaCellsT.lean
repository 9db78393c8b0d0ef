/- Things as laid data. -/
import Derived.Test.YtopaofcpjiicmaaCells
import Derived.Test.YtopaofcpjiicmaaMarkT
namespace Go.Proofs.Ytopaofcpjiicmaa
open Go.RowKit F256
set_option linter.unusedVariables false
set_option linter.unusedSimpArgs false
structure ThingD where
  name : ByteArray
  lost : Bool
  bytes : Nat × (Nat → Nat)
def layThing : Lay ThingD := (layS.two (layB.two layBytes)).as fun d => (d.name, d.lost, d.bytes)
/-- the text of a number, of 0 too -/
def markZ (k : Nat) : ByteArray := if k = 0 then ⟨#[109, 48]⟩ else markT k
theorem markZ_le (k : Nat) : (markZ k).size ≤ maxLen := by
  unfold markZ
  split
  · decide
  · exact markT_le k
theorem b3_eq1 (J : Nat) : (((J : Int) + 1) % 3 == 0) = decide ((J + 1) % 3 = 0) := by
  by_cases h : (J + 1) % 3 = 0
  · have : ((J : Int) + 1) % 3 = 0 := by omega
    simp [h, this]
  · have : ¬ ((J : Int) + 1) % 3 = 0 := by omega
    simp [h, this]
theorem Thing_rd {w : World} {hi : Nat} {d : ThingD} {cs : List Value} (h : layThing.rd w hi d cs) : ∃ ao2 cap2, cs = [.string d.name, .bool d.lost, .slice ao2 d.bytes.1 cap2] ∧ layBytes.rd w hi d.bytes [.slice ao2 d.bytes.1 cap2] ∧ d.name.size ≤ maxLen := by
  obtain ⟨c0, r0, rfl, h0, c1, r1, rfl, h1, h2⟩ := h
  obtain ⟨rfl, k0⟩ := h0
  obtain ⟨rfl, k1⟩ := h1
  obtain ⟨ao2, cap2, rfl⟩ := bytes_form h2
  exact ⟨ao2, cap2, rfl, h2, k0⟩
theorem Thing_own {w : World} {d : ThingD} {cs : List Value} {L : List Nat} (h : layThing.own w d cs L) : ∃ ao2 cap2 K2, cs = [.string d.name, .bool d.lost, .slice ao2 d.bytes.1 cap2] ∧ L = K2 ∧ layBytes.own w d.bytes [.slice ao2 d.bytes.1 cap2] K2 ∧ d.name.size ≤ maxLen := by
  obtain ⟨c0, r0, L0, M0, rfl, rfl, h0, c1, r1, L1, M1, rfl, rfl, h1, h2⟩ := h
  obtain ⟨rfl, k0, rfl⟩ := h0
  obtain ⟨rfl, k1, rfl⟩ := h1
  obtain ⟨ao2, cap2, rfl⟩ := bytes_formO h2
  exact ⟨ao2, cap2, _, rfl, rfl, h2, k0⟩
theorem Thing_cellsO {w : World} {d : ThingD} {cs : List Value} {L : List Nat} (h : layThing.own w d cs L) : ∃ ao2 cap2, cs = [.string d.name, .bool d.lost, .slice ao2 d.bytes.1 cap2] := by
  obtain ⟨ao2, cap2, K2, rfl, -⟩ := Thing_own h
  exact ⟨ao2, cap2, rfl⟩
theorem Thing_cells {w : World} {lo hi : Nat} {d : ThingD} {cs : List Value} (h : OwnT layThing w lo hi d cs) : ∃ ao2 cap2, cs = [.string d.name, .bool d.lost, .slice ao2 d.bytes.1 cap2] := by
  obtain ⟨L, h1, -⟩ := h
  exact Thing_cellsO h1
theorem Thing_mk {w : World} (d : ThingD) {ao2 : Option Addr} {cap2 : Nat} {K2 : List Nat} (h2 : layBytes.own w d.bytes [.slice ao2 d.bytes.1 cap2] K2) (k0 : d.name.size ≤ maxLen) : layThing.own w d [.string d.name, .bool d.lost, .slice ao2 d.bytes.1 cap2] (K2) := ⟨_, _, [], K2, rfl, rfl, ⟨rfl, k0, rfl⟩, ⟨_, _, [], K2, rfl, rfl, ⟨rfl, trivial, rfl⟩, h2⟩⟩
def szThingD (d : ThingD) : Nat := d.name.size + lenD d.bytes
def cvThingD (d : ThingD) : Nat := lenD d.bytes
def mkvThingD (j : Nat) (d : ThingD) : ThingD := ⟨d.name, d.lost, mkBytes (j) d.bytes⟩
def cThingD (d : ThingD) : Nat := 2 + lenD d.bytes
def mkThingD (j : Nat) (d : ThingD) : ThingD := ⟨markZ (j), decide ((j + 1) % 3 = 0), mkBytes (j + 2) d.bytes⟩
end Go.Proofs.Ytopaofcpjiicmaa
