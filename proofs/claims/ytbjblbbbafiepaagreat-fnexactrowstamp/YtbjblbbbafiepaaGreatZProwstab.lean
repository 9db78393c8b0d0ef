/- Cells of structs that hold slices; how much they hold; their marks. -/
import Derived.Test.YtbjblbbbafiepaaGreatZProwstaa
import Derived.Deep.RegionLaw
import Derived.BigQuiet
import Derived.Deep.QuietTactic
import Derived.Test.YtbjblbbbafiepaaGreatProg
import Derived.WalkKit
import Derived.WalkLawsBesides
import Derived.Laws.CopyOwn
import Derived.Deep.DeepCutAuto
set_option linter.unusedVariables false
set_option linter.unusedSimpArgs false
namespace Go.Proofs.YtbjblbbbafiepaaGreat
open Go.RowKit F256
theorem Block_rd {w:World} {hi:Nat} {d:BlockD} {cs:List Value} (h:layBlock.rd w hi d cs):∃ ao1 cap1,cs = [.int .i64 d.stamp,.slice ao1 d.bytes.1 cap1] ∧ layBytes.rd w hi d.bytes [.slice ao1 d.bytes.1 cap1] ∧ (-9223372036854775808 ≤ d.stamp ∧ d.stamp ≤ 9223372036854775807):=by
  obtain ⟨c0,r0,rfl,h0,h1⟩:=h;obtain ⟨rfl,k0⟩:=h0;obtain ⟨ao1,cap1,rfl⟩:=bytes_form h1;exact ⟨ao1,cap1,rfl,h1,k0⟩
theorem Block_own {w:World} {d:BlockD} {cs:List Value} {L:List Nat} (h:layBlock.own w d cs L):∃ ao1 cap1 K1,cs = [.int .i64 d.stamp,.slice ao1 d.bytes.1 cap1] ∧ L = K1 ∧ layBytes.own w d.bytes [.slice ao1 d.bytes.1 cap1] K1 ∧ (-9223372036854775808 ≤ d.stamp ∧ d.stamp ≤ 9223372036854775807):=by
  obtain ⟨c0,r0,L0,M0,rfl,rfl,h0,h1⟩:=h;obtain ⟨rfl,k0,rfl⟩:=h0;obtain ⟨ao1,cap1,rfl⟩:=bytes_formO h1;exact ⟨ao1,cap1,_,rfl,rfl,h1,k0⟩
theorem Block_cellsO {w:World} {d:BlockD} {cs:List Value} {L:List Nat} (h:layBlock.own w d cs L):∃ ao1 cap1,cs = [.int .i64 d.stamp,.slice ao1 d.bytes.1 cap1]:=by
  obtain ⟨ao1,cap1,K1,rfl,-⟩:=Block_own h;exact ⟨ao1,cap1,rfl⟩
theorem Block_cells {w:World} {lo hi:Nat} {d:BlockD} {cs:List Value} (h:OwnT layBlock w lo hi d cs):∃ ao1 cap1,cs = [.int .i64 d.stamp,.slice ao1 d.bytes.1 cap1]:=by
  obtain ⟨L,h1,-⟩:=h;exact Block_cellsO h1
def szBlockD (d:BlockD):Nat:=lenD d.bytes
theorem Drive_rd {w:World} {hi:Nat} {d:DriveD} {cs:List Value} (h:layDrive.rd w hi d cs):∃ ao1 cap1,cs = [.bool d.wiped,.slice ao1 d.blocks.1 cap1] ∧ (layBlock.slice 111).rd w hi d.blocks [.slice ao1 d.blocks.1 cap1]:=by
  obtain ⟨c0,r0,rfl,h0,h1⟩:=h;obtain ⟨rfl,k0⟩:=h0;obtain ⟨ao1,cap1,rfl⟩:=sl_form h1;exact ⟨ao1,cap1,rfl,h1⟩
theorem Drive_own {w:World} {d:DriveD} {cs:List Value} {L:List Nat} (h:layDrive.own w d cs L):∃ ao1 cap1 K1,cs = [.bool d.wiped,.slice ao1 d.blocks.1 cap1] ∧ L = K1 ∧ (layBlock.slice 111).own w d.blocks [.slice ao1 d.blocks.1 cap1] K1:=by
  obtain ⟨c0,r0,L0,M0,rfl,rfl,h0,h1⟩:=h;obtain ⟨rfl,k0,rfl⟩:=h0;obtain ⟨ao1,cap1,rfl⟩:=sl_formO h1;exact ⟨ao1,cap1,_,rfl,rfl,h1⟩
theorem Drive_cellsO {w:World} {d:DriveD} {cs:List Value} {L:List Nat} (h:layDrive.own w d cs L):∃ ao1 cap1,cs = [.bool d.wiped,.slice ao1 d.blocks.1 cap1]:=by
  obtain ⟨ao1,cap1,K1,rfl,-⟩:=Drive_own h;exact ⟨ao1,cap1,rfl⟩
theorem Drive_cells {w:World} {lo hi:Nat} {d:DriveD} {cs:List Value} (h:OwnT layDrive w lo hi d cs):∃ ao1 cap1,cs = [.bool d.wiped,.slice ao1 d.blocks.1 cap1]:=by
  obtain ⟨L,h1,-⟩:=h;exact Drive_cellsO h1
def szDriveD (d:DriveD):Nat:=(szSl szBlockD) d.blocks
theorem Rec_rd {w:World} {hi:Nat} {d:RecD} {cs:List Value} (h:layRec.rd w hi d cs):∃ ao6 cap6 ao7 cap7 ao8 cap8,cs = [.int .i64 d.kind,.int .i64 d.seq,.string d.name,.int .i64 d.length,.int .i64 d.group,.int .i64 d.row,.slice ao6 d.rows.1 cap6,.slice ao7 d.data.1 cap7,.slice ao8 d.delta.1 cap8] ∧ layInts.rd w hi d.rows [.slice ao6 d.rows.1 cap6] ∧ layBytes.rd w hi d.data [.slice ao7 d.data.1 cap7] ∧ layBytes.rd w hi d.delta [.slice ao8 d.delta.1 cap8] ∧ (-9223372036854775808 ≤ d.kind ∧ d.kind ≤ 9223372036854775807) ∧ (-9223372036854775808 ≤ d.seq ∧ d.seq ≤ 9223372036854775807) ∧ d.name.size ≤ maxLen ∧ (-9223372036854775808 ≤ d.length ∧ d.length ≤ 9223372036854775807) ∧ (-9223372036854775808 ≤ d.group ∧ d.group ≤ 9223372036854775807) ∧ (-9223372036854775808 ≤ d.row ∧ d.row ≤ 9223372036854775807):=by
  obtain ⟨c0,r0,rfl,h0,c1,r1,rfl,h1,c2,r2,rfl,h2,c3,r3,rfl,h3,c4,r4,rfl,h4,c5,r5,rfl,h5,c6,r6,rfl,h6,c7,r7,rfl,h7,h8⟩:=h;obtain ⟨rfl,k0⟩:=h0;obtain ⟨rfl,k1⟩:=h1;obtain ⟨rfl,k2⟩:=h2;obtain ⟨rfl,k3⟩:=h3;obtain ⟨rfl,k4⟩:=h4;obtain ⟨rfl,k5⟩:=h5;obtain ⟨ao6,cap6,rfl⟩:=ints_form h6;obtain ⟨ao7,cap7,rfl⟩:=bytes_form h7;obtain ⟨ao8,cap8,rfl⟩:=bytes_form h8;exact ⟨ao6,cap6,ao7,cap7,ao8,cap8,rfl,h6,h7,h8,k0,k1,k2,k3,k4,k5⟩
theorem Rec_own {w:World} {d:RecD} {cs:List Value} {L:List Nat} (h:layRec.own w d cs L):∃ ao6 cap6 ao7 cap7 ao8 cap8 K6 K7 K8,cs = [.int .i64 d.kind,.int .i64 d.seq,.string d.name,.int .i64 d.length,.int .i64 d.group,.int .i64 d.row,.slice ao6 d.rows.1 cap6,.slice ao7 d.data.1 cap7,.slice ao8 d.delta.1 cap8] ∧ L = K6 ++ (K7 ++ K8) ∧ layInts.own w d.rows [.slice ao6 d.rows.1 cap6] K6 ∧ layBytes.own w d.data [.slice ao7 d.data.1 cap7] K7 ∧ layBytes.own w d.delta [.slice ao8 d.delta.1 cap8] K8 ∧ (-9223372036854775808 ≤ d.kind ∧ d.kind ≤ 9223372036854775807) ∧ (-9223372036854775808 ≤ d.seq ∧ d.seq ≤ 9223372036854775807) ∧ d.name.size ≤ maxLen ∧ (-9223372036854775808 ≤ d.length ∧ d.length ≤ 9223372036854775807) ∧ (-9223372036854775808 ≤ d.group ∧ d.group ≤ 9223372036854775807) ∧ (-9223372036854775808 ≤ d.row ∧ d.row ≤ 9223372036854775807):=by
  obtain ⟨c0,r0,L0,M0,rfl,rfl,h0,c1,r1,L1,M1,rfl,rfl,h1,c2,r2,L2,M2,rfl,rfl,h2,c3,r3,L3,M3,rfl,rfl,h3,c4,r4,L4,M4,rfl,rfl,h4,c5,r5,L5,M5,rfl,rfl,h5,c6,r6,L6,M6,rfl,rfl,h6,c7,r7,L7,M7,rfl,rfl,h7,h8⟩:=h;obtain ⟨rfl,k0,rfl⟩:=h0;obtain ⟨rfl,k1,rfl⟩:=h1;obtain ⟨rfl,k2,rfl⟩:=h2;obtain ⟨rfl,k3,rfl⟩:=h3;obtain ⟨rfl,k4,rfl⟩:=h4;obtain ⟨rfl,k5,rfl⟩:=h5;obtain ⟨ao6,cap6,rfl⟩:=ints_formO h6;obtain ⟨ao7,cap7,rfl⟩:=bytes_formO h7;obtain ⟨ao8,cap8,rfl⟩:=bytes_formO h8;exact ⟨ao6,cap6,ao7,cap7,ao8,cap8,L6,L7,_,rfl,rfl,h6,h7,h8,k0,k1,k2,k3,k4,k5⟩
theorem Rec_cellsO {w:World} {d:RecD} {cs:List Value} {L:List Nat} (h:layRec.own w d cs L):∃ ao6 cap6 ao7 cap7 ao8 cap8,cs = [.int .i64 d.kind,.int .i64 d.seq,.string d.name,.int .i64 d.length,.int .i64 d.group,.int .i64 d.row,.slice ao6 d.rows.1 cap6,.slice ao7 d.data.1 cap7,.slice ao8 d.delta.1 cap8]:=by
  obtain ⟨ao6,cap6,ao7,cap7,ao8,cap8,K6,K7,K8,rfl,-⟩:=Rec_own h;exact ⟨ao6,cap6,ao7,cap7,ao8,cap8,rfl⟩
theorem Rec_cells {w:World} {lo hi:Nat} {d:RecD} {cs:List Value} (h:OwnT layRec w lo hi d cs):∃ ao6 cap6 ao7 cap7 ao8 cap8,cs = [.int .i64 d.kind,.int .i64 d.seq,.string d.name,.int .i64 d.length,.int .i64 d.group,.int .i64 d.row,.slice ao6 d.rows.1 cap6,.slice ao7 d.data.1 cap7,.slice ao8 d.delta.1 cap8]:=by
  obtain ⟨L,h1,-⟩:=h;exact Rec_cellsO h1
def szRecD (d:RecD):Nat:=d.name.size + lenD d.rows + lenD d.data + lenD d.delta
theorem Tape_rd {w:World} {hi:Nat} {d:TapeD} {cs:List Value} (h:layTape.rd w hi d cs):∃ ao1 cap1,cs = [.bool d.wiped,.slice ao1 d.recs.1 cap1] ∧ (layRec.slice 93).rd w hi d.recs [.slice ao1 d.recs.1 cap1]:=by
  obtain ⟨c0,r0,rfl,h0,h1⟩:=h;obtain ⟨rfl,k0⟩:=h0;obtain ⟨ao1,cap1,rfl⟩:=sl_form h1;exact ⟨ao1,cap1,rfl,h1⟩
theorem Tape_own {w:World} {d:TapeD} {cs:List Value} {L:List Nat} (h:layTape.own w d cs L):∃ ao1 cap1 K1,cs = [.bool d.wiped,.slice ao1 d.recs.1 cap1] ∧ L = K1 ∧ (layRec.slice 93).own w d.recs [.slice ao1 d.recs.1 cap1] K1:=by
  obtain ⟨c0,r0,L0,M0,rfl,rfl,h0,h1⟩:=h;obtain ⟨rfl,k0,rfl⟩:=h0;obtain ⟨ao1,cap1,rfl⟩:=sl_formO h1;exact ⟨ao1,cap1,_,rfl,rfl,h1⟩
theorem Tape_cellsO {w:World} {d:TapeD} {cs:List Value} {L:List Nat} (h:layTape.own w d cs L):∃ ao1 cap1,cs = [.bool d.wiped,.slice ao1 d.recs.1 cap1]:=by
  obtain ⟨ao1,cap1,K1,rfl,-⟩:=Tape_own h;exact ⟨ao1,cap1,rfl⟩
theorem Tape_cells {w:World} {lo hi:Nat} {d:TapeD} {cs:List Value} (h:OwnT layTape w lo hi d cs):∃ ao1 cap1,cs = [.bool d.wiped,.slice ao1 d.recs.1 cap1]:=by
  obtain ⟨L,h1,-⟩:=h;exact Tape_cellsO h1
def szTapeD (d:TapeD):Nat:=(szSl szRecD) d.recs
theorem World_rd {w:World} {hi:Nat} {d:WorldD} {cs:List Value} (h:layWorld.rd w hi d cs):∃ ao1 cap1 ao2 cap2 ao3 cap3,cs = [.int .i64 (d.shape 0),.int .i64 (d.shape 1),.int .i64 (d.shape 2),.int .i64 (d.shape 3),.int .i64 (d.shape 4),.int .i64 (d.shape 5),.int .i64 (d.shape 6),.int .i64 (d.shape 7),.int .i64 (d.shape 8),.slice ao1 d.groups.1 cap1,.slice ao2 d.on.1 cap2,.slice ao3 d.tapes.1 cap3,.int .i64 d.writes,.int .i64 d.stop,.bool d.down] ∧ ((layDrive.slice 98).slice 95).rd w hi d.groups [.slice ao1 d.groups.1 cap1] ∧ layInts.rd w hi d.on [.slice ao2 d.on.1 cap2] ∧ (layTape.slice 90).rd w hi d.tapes [.slice ao3 d.tapes.1 cap3] ∧ (∀ i,-9223372036854775808 ≤ d.shape i ∧ d.shape i ≤ 9223372036854775807) ∧ (-9223372036854775808 ≤ d.writes ∧ d.writes ≤ 9223372036854775807) ∧ (-9223372036854775808 ≤ d.stop ∧ d.stop ≤ 9223372036854775807):=by
  obtain ⟨c0,r0,rfl,h0,c1,r1,rfl,h1,c2,r2,rfl,h2,c3,r3,rfl,h3,c4,r4,rfl,h4,c5,r5,rfl,h5,h6⟩:=h;obtain ⟨rfl,k0⟩:=h0;obtain ⟨ao1,cap1,rfl⟩:=sl_form h1;obtain ⟨ao2,cap2,rfl⟩:=ints_form h2;obtain ⟨ao3,cap3,rfl⟩:=sl_form h3;obtain ⟨rfl,k4⟩:=h4;obtain ⟨rfl,k5⟩:=h5;obtain ⟨rfl,k6⟩:=h6;exact ⟨ao1,cap1,ao2,cap2,ao3,cap3,rfl,h1,h2,h3,k0,k4,k5⟩
def szWorldD (d:WorldD):Nat:=(szSl (szSl szDriveD)) d.groups + lenD d.on + (szSl szTapeD) d.tapes
structure WorldResultD where
  code:Int
  world:WorldD
structure BlockResultD where
  code:Int
  block:BlockD
end Go.Proofs.YtbjblbbbafiepaaGreat
namespace Go.Proofs.YtbjblbbbafiepaaGreat
open Go.RowKit F256
structure Cpy (w wr:World) (R k:Nat) (n:Nat → Nat) (f:Nat → Nat → Nat) (e:Nat → Value):Prop where
  row:wr.ownsRow w.heap.size 49 1 (.slice (some ⟨w.heap.size,0,none⟩) R R) R (valsOf R fun i => if i < k then e i else nilS)
  each:∀ i,i < k → Own wr (w.heap.size + 1) wr.heap.size (e i) (n i) (f i)
  apart:Apart w.heap.size k e
  bel:Below w.heap.size w wr
  lt:w.heap.size < wr.heap.size
end Go.Proofs.YtbjblbbbafiepaaGreat
namespace Go.Proofs.YtbjblbbbafiepaaGreat
open Go.RowKit F256
end Go.Proofs.YtbjblbbbafiepaaGreat
namespace Go.Proofs.YtbjblbbbafiepaaGreat
open Go.RowKit F256
def tcell (a k i:Nat):Value:=.int .u8 ((if i < k then tabN a i else 0:Nat):Int)
def T (a k:Nat):Array Value:=#[tcell a k 0,tcell a k 1,tcell a k 2,tcell a k 3,tcell a k 4,tcell a k 5,tcell a k 6,tcell a k 7]
end Go.Proofs.YtbjblbbbafiepaaGreat
namespace Go.Proofs.YtbjblbbbafiepaaGreat
open Go.RowKit F256
end Go.Proofs.YtbjblbbbafiepaaGreat
namespace Go.Proofs.YtbjblbbbafiepaaGreat
open Go.RowKit F256
end Go.Proofs.YtbjblbbbafiepaaGreat
namespace Go.Proofs.YtbjblbbbafiepaaGreat
open Go.RowKit F256
end Go.Proofs.YtbjblbbbafiepaaGreat
namespace Go.Proofs.YtbjblbbbafiepaaGreat
open F256
abbrev Mat:=Nat → Nat → Nat
def leadF (M:Mat) (c R:Nat):Nat → Nat → Nat
  | 0,_ => R
  | d + 1,i => if M i c = 0 then leadF M c R d (i + 1) else i
def lead (M:Mat) (c R r:Nat):Nat:=leadF M c R (R - r) r
end Go.Proofs.YtbjblbbbafiepaaGreat
namespace Go.Proofs.YtbjblbbbafiepaaGreat
open F256
end Go.Proofs.YtbjblbbbafiepaaGreat
namespace Go.Proofs.YtbjblbbbafiepaaGreat
open F256
end Go.Proofs.YtbjblbbbafiepaaGreat
namespace Go.Proofs.YtbjblbbbafiepaaGreat
open F256
end Go.Proofs.YtbjblbbbafiepaaGreat
namespace Go.Proofs.YtbjblbbbafiepaaGreat
open F256
end Go.Proofs.YtbjblbbbafiepaaGreat
namespace Go.Proofs.YtbjblbbbafiepaaGreat
end Go.Proofs.YtbjblbbbafiepaaGreat
namespace Go.Proofs.YtbjblbbbafiepaaGreat
open Go.RowKit F256
end Go.Proofs.YtbjblbbbafiepaaGreat
namespace Go.Proofs.YtbjblbbbafiepaaGreat
open Go.RowKit F256
def cau (C t:Nat):Nat:=powN ((128 + t / C) ^^^ (t % C)) 254
theorem l1In_yes (v a b:Int) (h1:a ≤ v) (h2:v ≤ b) (w:World) :
    Calls Tryz.prog 59 #[.int .i64 v,.int .i64 a,.int .i64 b] w fun e w' => e = .returned (.bool true) ∧ w' = w:=by
  go_enter Tryz.func59,Tryz.ntmps59
  go_wp2;go_ret;exact ⟨rfl,rfl⟩
theorem l1In_no (v a b:Int) (h:v < a ∨ b < v) (w:World) :
    Calls Tryz.prog 59 #[.int .i64 v,.int .i64 a,.int .i64 b] w fun e w' => e = .returned (.bool false) ∧ w' = w:=by
  by_cases h1:v < a
  · have hd:decide (a ≤ v) = false:=by simp;omega
    go_enter Tryz.func59,Tryz.ntmps59
    go_wp2;go_ret;exact ⟨rfl,rfl⟩
  · have h2:b < v:=by omega
    have h3:a ≤ v:=by omega
    have hd:decide (v ≤ b) = false:=by simp;omega
    go_enter Tryz.func59,Tryz.ntmps59
    go_wp2;go_ret;exact ⟨rfl,rfl⟩
def CS (w wr:World) (C k:Nat) (ao:Option Addr) (cap:Nat):Prop :=
  Own wr (w.heap.size + 2) wr.heap.size (.slice ao k cap) k (cau C) ∧ Box wr (w.heap.size + 1) #[.int .i64 0,.slice ao k cap] 51 ∧ Box wr w.heap.size #[.int .i64 0,.slice none 0 0] 51 ∧ Below w.heap.size w wr
end Go.Proofs.YtbjblbbbafiepaaGreat
namespace Go.Proofs.YtbjblbbbafiepaaGreat
open Go.RowKit F256
end Go.Proofs.YtbjblbbbafiepaaGreat
namespace Go.Proofs.YtbjblbbbafiepaaGreat
open Go.RowKit F256
end Go.Proofs.YtbjblbbbafiepaaGreat
namespace Go.Proofs.YtbjblbbbafiepaaGreat
open Go.RowKit F256
structure Bld (w wr:World) (lo:Nat) (v:Value) (k:Nat) (n:Nat → Nat) (f:Mat) (e:Nat → Value):Prop where
  row:wr.ownsRow lo 49 1 v k (valsOf k e)
  notnil:v ≠ nilS
  each:∀ i,i < k → Own wr lo wr.heap.size (e i) (n i) (f i)
  apart:∀ i j,i < k → j < k → i ≠ j → ∀ b,(e i).ownBlock = some b → (e j).ownBlock ≠ some b
  bel:Below lo w wr
  le:lo ≤ wr.heap.size
structure BldR (wr:World) (lo hi:Nat) (v:Value) (k:Nat) (n:Nat → Nat) (f:Mat) (e:Nat → Value):Prop where
  row:wr.ownsRow lo 49 1 v k (valsOf k e)
  notnil:v ≠ nilS
  low:∀ b,v.ownBlock = some b → b < hi
  each:∀ i,i < k → Own wr lo hi (e i) (n i) (f i)
  apart:∀ i j,i < k → j < k → i ≠ j → ∀ b,(e i).ownBlock = some b → (e j).ownBlock ≠ some b
  le:lo ≤ hi
  le2:hi ≤ wr.heap.size
end Go.Proofs.YtbjblbbbafiepaaGreat
namespace Go.Proofs.YtbjblbbbafiepaaGreat
open Go.RowKit F256
def BoolP (P:Prop) (w:World) (e:Ending) (w':World):Prop:=∃ b:Bool,e = .returned (.bool b) ∧ (b = true ↔ P) ∧ Below w.heap.size w w'
theorem boolYes {P:Prop} {w:World} {e:Ending} {w':World} (he:e = .returned (.bool true)) (h:P) (hb:Below w.heap.size w w'):BoolP P w e w':=⟨true,he,⟨fun _ => h,fun _ => rfl⟩,hb⟩
theorem boolNo {P:Prop} {w:World} {e:Ending} {w':World} (he:e = .returned (.bool false)) (h:¬ P) (hb:Below w.heap.size w w'):BoolP P w e w':=⟨false,he,⟨fun h => (by cases h),fun hh => absurd hh h⟩,hb⟩
def Shp (d s:Int):Prop:=1 ≤ d ∧ d ≤ 3 ∧ 0 ≤ s ∧ s ≤ 2
theorem l2Shape_any (d s:Int) (w:World) :
    Calls Tryz.prog 87 #[.int .i64 d,.int .i64 s] w (BoolP (Shp d s) w):=by
  by_cases h1:1 ≤ d ∧ d ≤ 3
  · by_cases h2:0 ≤ s ∧ s ≤ 2
    · go_enter Tryz.func87,Tryz.ntmps87
      go_wp2_with fail
      refine (l1In_yes d 1 3 h1.1 h1.2 _).mono ?_;rintro e w1 ⟨rfl,rfl⟩
      go_wp2_with fail
      refine (l1In_yes s 0 2 h2.1 h2.2 _).mono ?_;rintro e w1 ⟨rfl,rfl⟩;go_wp2;go_ret;exact boolYes rfl ⟨h1.1,h1.2,h2.1,h2.2⟩ (Below.refl _ _)
    · go_enter Tryz.func87,Tryz.ntmps87
      go_wp2_with fail
      refine (l1In_yes d 1 3 h1.1 h1.2 _).mono ?_;rintro e w1 ⟨rfl,rfl⟩
      go_wp2_with fail
      refine (l1In_no s 0 2 (by omega) _).mono ?_;rintro e w1 ⟨rfl,rfl⟩;go_wp2;go_ret;exact boolNo rfl (fun h => h2 ⟨h.2.2.1,h.2.2.2⟩) (Below.refl _ _)
  · go_enter Tryz.func87,Tryz.ntmps87
    go_wp2_with fail
    refine (l1In_no d 1 3 (by omega) _).mono ?_;rintro e w1 ⟨rfl,rfl⟩;go_wp2;go_ret;exact boolNo rfl (fun h => h1 ⟨h.1,h.2.1⟩) (Below.refl _ _)
end Go.Proofs.YtbjblbbbafiepaaGreat
namespace Go.Proofs.YtbjblbbbafiepaaGreat
open Go.RowKit F256
def RiseP (n:Nat) (g:Nat → Int) (most:Int):Prop:=∀ i,i < n → 0 ≤ g i ∧ g i ≤ most ∧ (0 < i → g (i - 1) < g i)
set_option maxHeartbeats 2000000 in
theorem l2Rise_any (v:Value) (n:Nat) (g:Nat → Int) (hi:Nat) (most:Int) (w:World) (r:RdI w hi v n g) :
    Calls Tryz.prog 92 #[v,.int .i64 most] w (BoolP (RiseP n g most) w):=by
  obtain ⟨ao,cap,rfl,hm,hc⟩:=r;unfold maxLen at hm
  go_enter Tryz.func92,Tryz.ntmps92
  go_wp2
  go_loopw [5] (fun i wr => ∃ k:Nat,k ≤ n ∧ i = .int .i64 k ∧ (∀ i,i < k → 0 ≤ g i ∧ g i ≤ most ∧ (0 < i → g (i - 1) < g i)) ∧ ∃ q,wr = w.drewN q) (fun i _ => n - (intOf i).toNat)
  case atStart => exact ⟨0,Nat.zero_le _,rfl,fun i hi => by omega,0,rfl⟩
  case round =>
    obtain ⟨k,hk,rfl,hall,q,rfl⟩:=hrel;have HALL:Hid (∀ i,i < k → 0 ≤ g i ∧ g i ≤ most ∧ (0 < i → g (i - 1) < g i)):=hall;clear hall
    by_cases hlt:k < n
    · obtain ⟨b,off,rfl,hblt,hcell⟩:=hc (by omega)
      have hck:w.cell? ⟨b,off + k,none⟩ = some (.int .i64 (g k)):=hcell k hlt;have HCL:Hid (∀ i,i < n → w.cell? ⟨b,off + i,none⟩ = some (.int .i64 (g i))):=hcell;obtain ⟨x,hx⟩:∃ x,x = g k:=⟨_,rfl⟩;have HX:Hid (x = g k):=hx;rw [← hx] at hck;clear hc hcell hx
      by_cases h1:x < 0
      · have no:¬ RiseP n g most:=fun h => by have:=(h k hlt).1;rw [← HX.out] at this;omega
        have HNO:Hid (¬ RiseP n g most):=no;clear no;go_wp2
        go_quiet (fail)
        go_wp2;go_ret;exact boolNo rfl HNO.out (below_drewN (below_drewN (Below.refl _ _) _) _)
      · have e1:decide (x < 0) = false:=by simp;omega
        by_cases h2:most < x
        · have HNO:Hid (¬ RiseP n g most):=fun h => by have:=(h k hlt).2.1;rw [← HX.out] at this;omega
          go_wp2
          go_quiet (fail)
          go_wp2;go_ret;exact boolNo rfl HNO.out (below_drewN (below_drewN (Below.refl _ _) _) _)
        · have e2:decide (most < x) = false:=by simp;omega
          by_cases h3:0 < k
          · obtain ⟨k1,hk1⟩:∃ k1,k1 + 1 = k:=⟨k - 1,by omega⟩
            have hcp:w.cell? ⟨b,off + k1,none⟩ = some (.int .i64 (g k1)):=HCL.out k1 (by omega);obtain ⟨y,hy⟩:∃ y,y = g k1:=⟨_,rfl⟩
            have HY:Hid (y = g (k - 1)):=by show y = g (k - 1);rw [hy,show k - 1 = k1 by omega]
            rw [← hy] at hcp
            have wsub:IntKind.i64.wrap ((k:Int) - 1) = (k1:Int):=by rw [IntKind.wrap_i64];omega
            have hk1n:k1 < n:=by omega
            have e3:((0:Int) < (k:Int)):=by omega
            have HK1:Hid (k1 + 1 = k):=hk1;clear hy hk1
            by_cases h4:x ≤ y
            · have HNO:Hid (¬ RiseP n g most):=fun h => by have:=(h k hlt).2.2 h3;rw [← HX.out,← HY.out] at this;omega
              go_wp2
              go_quiet (fail)
              go_wp2;go_ret;exact boolNo rfl HNO.out (below_drewN (below_drewN (Below.refl _ _) _) _)
            · have e4:decide (x ≤ y) = false:=by simp;omega
              have HF:Hid (0 ≤ g k ∧ g k ≤ most ∧ (0 < k → g (k - 1) < g k)):=by
                show 0 ≤ g k ∧ g k ≤ most ∧ (0 < k → g (k - 1) < g k)
                rw [← HX.out,← HY.out];exact ⟨by omega,by omega,fun _ => by omega⟩
              go_wp2
              go_quiet (fail)
              go_wp2
              go_roundw
              case rel => exact ⟨k + 1,by omega,by go_num,fun i hi => by
                            by_cases c:i = k
                            · rw [c];exact HF.out
                            · exact HALL.out i (by omega),_,rfl⟩
              case measure => simp [intOf];omega
          · have HF:Hid (0 ≤ g k ∧ g k ≤ most):=by
              show 0 ≤ g k ∧ g k ≤ most
              rw [← HX.out];exact ⟨by omega,by omega⟩
            have e3:decide ((0:Int) < (k:Int)) = false:=by simp;omega
            have e3n:decide (0 < k) = false:=by simp;omega
            have HK0:Hid (k = 0):=by show k = 0;omega
            clear h3;go_wp2
            go_quiet (fail)
            go_wp2
            go_roundw
            case rel => exact ⟨k + 1,by omega,by go_num,fun i hi => by
                          have:=HK0.out
                          obtain rfl:i = k:=by omega
                          exact ⟨HF.out.1,HF.out.2,fun h => by omega⟩,_,rfl⟩
            case measure => simp [intOf];omega
    · obtain rfl:k = n:=by omega
      go_wp2;go_ret;exact boolYes rfl HALL.out (below_drewN (Below.refl _ _) _)
end Go.Proofs.YtbjblbbbafiepaaGreat