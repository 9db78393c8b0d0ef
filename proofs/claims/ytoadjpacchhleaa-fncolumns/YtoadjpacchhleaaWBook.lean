/- A map keyed by an array of six bytes, with no entry or one. -/
import Derived.Test.YtoadjpacchhleaaWBytess
import Derived.Stop.BytesEq
import Derived.Maps.Own
import Derived.Maps.OwnOps
namespace Go.Proofs.Ytoadjpacchhleaa
open Go.RowKit F256
set_option linter.unusedVariables false
set_option linter.unusedSimpArgs false

/-- six bytes as an array -/
def arr6 (f : Nat → Nat) : Value := .agg #[.int .u8 (f 0), .int .u8 (f 1), .int .u8 (f 2), .int .u8 (f 3), .int .u8 (f 4), .int .u8 (f 5)]
theorem arr6_cells (f : Nat → Nat) (h : ∀ j, f j < 256) : arr6 f = .agg (([UInt8.ofNat (f 0), UInt8.ofNat (f 1), UInt8.ofNat (f 2), UInt8.ofNat (f 3), UInt8.ofNat (f 4), UInt8.ofNat (f 5)] : List UInt8).map Extern.Stop.cell).toArray := by
  have e : ∀ j, Extern.Stop.cell (UInt8.ofNat (f j)) = Value.int .u8 (f j) := fun j => by
    have : (UInt8.ofNat (f j)).toNat = f j := by simp [UInt8.toNat_ofNat, Nat.mod_eq_of_lt (h j)]
    simp [Extern.Stop.cell, this]
  simp [arr6, e]
theorem eq6_run (f : Nat → Nat) (hf : ∀ j, f j < 256) (w : World) : (Op.equalIn 10000 112 (arr6 f) (arr6 f)).run Try.prog w = .ok true w := by
  rw [arr6_cells f hf, run_equalIn_bytes w 9998 112 5 6 Try.underlying112 Try.underlying5 (fun w => by kernel_rfl) _ _ rfl rfl]
  simp
theorem check6 (em : Bool) (f : Nat → Nat) (w : World) : (Instr.checkKey em 10000 112 (arr6 f)).run Try.prog w = .ok () w := by kernel_rfl
theorem find6_none (f : Nat → Nat) (w : World) : (Instr.findKey 112 (arr6 f) []).run Try.prog w = .ok none w := by kernel_rfl
theorem find6_one (f : Nat → Nat) (hf : ∀ j, f j < 256) (val : Value) (t : Nat) (w : World) : (Instr.findKey 112 (arr6 f) [⟨arr6 f, val, t⟩]).run Try.prog w = .ok (some (0, val)) w := by
  have h := eq6_run f hf w
  have hn : Instr.findNow (.array 6 5) (arr6 f) [⟨arr6 f, val, t⟩] 0 = none := rfl
  simp [Instr.findKey, run_underlying Try.underlying112, hn, Instr.findAsking, Op.equal, Op.maxDepth, h, Result.andThen]
theorem zero_lists (w : World) : (zeroValue 32).run Try.prog w = .ok nilS w := by kernel_rfl
/-- the block of a map -/
def MapAt (w : World) (b : Nat) (es : Array MapEntry) (t : Nat) : Prop := w.heap[b]? = some (.map es t)
theorem MapAt.lt {w : World} {b : Nat} {es : Array MapEntry} {t : Nat} (h : MapAt w b es t) : b < w.heap.size := (Array.getElem?_eq_some_iff.1 h).1
theorem MapAt.below {w w' : World} {b B : Nat} {es : Array MapEntry} {t : Nat} (h : MapAt w b es t) (hb : Below B w w') (hB : b < B) : MapAt w' b es t := (hb.block b hB).trans h
theorem mapAt_new (w : World) : MapAt (w.alloc (.map #[] 0)) w.heap.size #[] 0 := heap_alloc_new w _
/-- _, known := book[key], where it has none -/
theorem look6_none {w : World} {b : Nat} (h : MapAt w b #[] 0) (f : Nat → Nat) : (Instr.lookup 94 (.map (some b)) (arr6 f) true).run Try.prog w = .ok (.tuple #[nilS, .bool false]) w := by
  simp [Instr.lookup, run_underlying Try.underlying94, MapKept.run_getObj_map h, check6, find6_none, zero_lists, Result.andThen]
theorem look6_one {w : World} {b : Nat} {f : Nat → Nat} (hf : ∀ j, f j < 256) {val : Value} {t u : Nat} (h : MapAt w b #[⟨arr6 f, val, t⟩] u) (c : Bool) : (Instr.lookup 94 (.map (some b)) (arr6 f) c).run Try.prog w = .ok (if c then .tuple #[val, .bool true] else val) w := by
  simp [Instr.lookup, run_underlying Try.underlying94, MapKept.run_getObj_map h, check6, find6_one f hf, Result.andThen]
/-- book[key] = val, where it has none -/
theorem put6_none {w : World} {b : Nat} (h : MapAt w b #[] 0) (f : Nat → Nat) (val : Value) : (Instr.mapUpdate 94 (.map (some b)) (arr6 f) val).run Try.prog w = .ok () (ChangeMaps.setBlock w b (.map #[⟨arr6 f, val, 0⟩] 1)) := by
  simp [Instr.mapUpdate, run_underlying Try.underlying94, MapKept.run_getObj_map h, check6, find6_none, Result.andThen]
  exact MapKept.run_setObj_map _ h
theorem setB_same {w : World} {b : Nat} {es : Array MapEntry} {t : Nat} (h : MapAt w b es t) (o : Obj) : (ChangeMaps.setBlock w b o).heap[b]? = some o := ChangeMaps.heap_setBlock_same h o
theorem setB_other {w : World} {b : Nat} {es : Array MapEntry} {t : Nat} (h : MapAt w b es t) (o : Obj) {i : Nat} (hi : i ≠ b) : (ChangeMaps.setBlock w b o).heap[i]? = w.heap[i]? := ChangeMaps.heap_setBlock_other h o hi
theorem setB_size (w : World) (b : Nat) (o : Obj) : (ChangeMaps.setBlock w b o).heap.size = w.heap.size := by simp [ChangeMaps.setBlock]
theorem setB_chg {w : World} {b : Nat} {es : Array MapEntry} {t : Nat} (h : MapAt w b es t) (o : Obj) : Chg b (b + 1) w (ChangeMaps.setBlock w b o) :=
  ⟨rfl, rfl, rfl, Nat.le_of_eq (setB_size w b o).symm, fun k _ hk => setB_other h o (by omega)⟩
theorem below_chg {lo hi B : Nat} {w w' : World} (h : Below B w w') (hB : w.heap.size ≤ B) : Chg lo hi w w' := ⟨h.os, h.tape, h.output, h.size, fun k hk _ => h.block k (by omega)⟩
end Go.Proofs.Ytoadjpacchhleaa
