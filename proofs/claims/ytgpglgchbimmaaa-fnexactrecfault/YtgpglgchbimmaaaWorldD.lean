/- Worlds as plain data, and how they lie in memory. -/
import Derived.Test.YtgpglgchbimmaaaLay3
namespace Go.Proofs.Ytgpglgchbimmaaa
open Go.RowKit

/-- n numbers, a cell each -/
def layNums (n : Nat) : Lay (Nat → Int) where
  sz := n
  rd := fun _ _ s cs => cs = (List.range n).map (fun i => Value.int .i64 (s i)) ∧ ∀ i, -9223372036854775808 ≤ s i ∧ s i ≤ 9223372036854775807
  own := fun _ s cs L => cs = (List.range n).map (fun i => Value.int .i64 (s i)) ∧ (∀ i, -9223372036854775808 ≤ s i ∧ s i ≤ 9223372036854775807) ∧ L = []
  rd_len := fun h => by rw [h.1]; simp
  rd_below := fun h _ _ => h
  rd_mono := fun h _ => h
  own_len := fun h => by rw [h.1]; simp
  own_kept := fun h _ => h
  own_lt := fun h b hb => by rw [h.2.2] at hb; cases hb
  own_rd := fun h _ => ⟨h.1, h.2.1⟩
  own_one := fun h u hu => by
    rw [h.1] at hu
    obtain ⟨i, _, rfl⟩ := List.mem_map.1 hu
    rfl

structure BlockD where
  stamp : Int
  bytes : Nat × (Nat → Nat)
structure DriveD where
  wiped : Bool
  blocks : Nat × (Nat → BlockD)
structure RecD where
  kind : Int
  seq : Int
  name : ByteArray
  length : Int
  group : Int
  row : Int
  rows : Nat × (Nat → Int)
  data : Nat × (Nat → Nat)
  delta : Nat × (Nat → Nat)
structure TapeD where
  wiped : Bool
  recs : Nat × (Nat → RecD)
structure WorldD where
  shape : Nat → Int
  groups : Nat × (Nat → Nat × (Nat → DriveD))
  on : Nat × (Nat → Int)
  tapes : Nat × (Nat → TapeD)
  writes : Int
  stop : Int
  down : Bool
def layBlock : Lay BlockD := (layI.two layBytes).as fun d => (d.stamp, d.bytes)
def layDrive : Lay DriveD := (layB.two (layBlock.slice 88)).as fun d => (d.wiped, d.blocks)
def layRec : Lay RecD := (layI.two (layI.two (layS.two (layI.two (layI.two (layI.two (layInts.two (layBytes.two layBytes)))))))).as fun d => (d.kind, d.seq, d.name, d.length, d.group, d.row, d.rows, d.data, d.delta)
def layTape : Lay TapeD := (layB.two (layRec.slice 45)).as fun d => (d.wiped, d.recs)
def layWorld : Lay WorldD := ((layNums 9).two (((layDrive.slice 86).slice 83).two (layInts.two ((layTape.slice 57).two (layI.two (layI.two layB)))))).as fun d => (d.shape, d.groups, d.on, d.tapes, d.writes, d.stop, d.down)
end Go.Proofs.Ytgpglgchbimmaaa
