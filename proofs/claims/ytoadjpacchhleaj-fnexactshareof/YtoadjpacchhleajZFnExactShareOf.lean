/- For every three numbers and every slice of numbers the program's ShareOf answers as the specification's does, writes into no argument and hands back memory of its own: the law FnExactShareOf returns true at every input, and changes nothing that was there. No condition. -/
import Derived.Test.YtoadjpacchhleajWBytess
import Derived.Stop.BytesEq
import Derived.Maps.Own
import Derived.Maps.OwnOps
import Derived.Test.YtoadjpacchhleajWImplO
import Derived.Test.YtoadjpacchhleajWRowF
import Derived.Test.YtoadjpacchhleajWInts
import Derived.Test.YtoadjpacchhleajWAppend
import Derived.Test.YtoadjpacchhleajWImplA
import Derived.Test.YtoadjpacchhleajNth
import Derived.Test.YtoadjpacchhleajColDefs
import Derived.Test.YtoadjpacchhleajWJoin
import Derived.Test.YtoadjpacchhleajRows
import Derived.Test.YtoadjpacchhleajFrameM
import Derived.Test.YtoadjpacchhleajFrameI
import Derived.Test.YtoadjpacchhleajWIntsL
import Derived.Test.YtoadjpacchhleajWColF
namespace Go.Proofs.Ytoadjpacchhleaj
open Go.RowKit F256
set_option linter.unusedVariables false
set_option linter.unusedSimpArgs false

/-- six bytes as an array -/
def arr6 (f : Nat → Nat) : Value := .agg #[.int .u8 (f 0), .int .u8 (f 1), .int .u8 (f 2), .int .u8 (f 3), .int .u8 (f 4), .int .u8 (f 5)]
theorem arr6_cells (f : Nat → Nat) (h : ∀ j, f j < 256) : arr6 f = .agg (([UInt8.ofNat (f 0), UInt8.ofNat (f 1), UInt8.ofNat (f 2), UInt8.ofNat (f 3), UInt8.ofNat (f 4), UInt8.ofNat (f 5)] : List UInt8).map Extern.Stop.cell).toArray := by
  have e : ∀ j, Extern.Stop.cell (UInt8.ofNat (f j)) = Value.int .u8 (f j) := fun j => by
    have : (UInt8.ofNat (f j)).toNat = f j := by simp [UInt8.toNat_ofNat, Nat.mod_eq_of_lt (h j)]
    simp [Extern.Stop.cell, this]
  simp [arr6, e]
theorem eq6_run (f : Nat → Nat) (hf : ∀ j, f j < 256) (w : World) : (Op.equalIn 10000 73 (arr6 f) (arr6 f)).run Try.prog w = .ok true w := by
  rw [arr6_cells f hf, run_equalIn_bytes w 9998 73 5 6 Try.underlying73 Try.underlying5 (fun w => by kernel_rfl) _ _ rfl rfl]
  simp
theorem check6 (em : Bool) (f : Nat → Nat) (w : World) : (Instr.checkKey em 10000 73 (arr6 f)).run Try.prog w = .ok () w := by kernel_rfl
theorem find6_none (f : Nat → Nat) (w : World) : (Instr.findKey 73 (arr6 f) []).run Try.prog w = .ok none w := by kernel_rfl
theorem find6_one (f : Nat → Nat) (hf : ∀ j, f j < 256) (val : Value) (t : Nat) (w : World) : (Instr.findKey 73 (arr6 f) [⟨arr6 f, val, t⟩]).run Try.prog w = .ok (some (0, val)) w := by
  have h := eq6_run f hf w
  have hn : Instr.findNow (.array 6 5) (arr6 f) [⟨arr6 f, val, t⟩] 0 = none := rfl
  simp [Instr.findKey, run_underlying Try.underlying73, hn, Instr.findAsking, Op.equal, Op.maxDepth, h, Result.andThen]
theorem zero_lists (w : World) : (zeroValue 33).run Try.prog w = .ok nilS w := by kernel_rfl
/-- the block of a map -/
def MapAt (w : World) (b : Nat) (es : Array MapEntry) (t : Nat) : Prop := w.heap[b]? = some (.map es t)
theorem MapAt.lt {w : World} {b : Nat} {es : Array MapEntry} {t : Nat} (h : MapAt w b es t) : b < w.heap.size := (Array.getElem?_eq_some_iff.1 h).1
theorem MapAt.below {w w' : World} {b B : Nat} {es : Array MapEntry} {t : Nat} (h : MapAt w b es t) (hb : Below B w w') (hB : b < B) : MapAt w' b es t := (hb.block b hB).trans h
theorem mapAt_new (w : World) : MapAt (w.alloc (.map #[] 0)) w.heap.size #[] 0 := heap_alloc_new w _
/-- _, known := book[key], where it has none -/
theorem look6_none {w : World} {b : Nat} (h : MapAt w b #[] 0) (f : Nat → Nat) : (Instr.lookup 58 (.map (some b)) (arr6 f) true).run Try.prog w = .ok (.tuple #[nilS, .bool false]) w := by
  simp [Instr.lookup, run_underlying Try.underlying58, MapKept.run_getObj_map h, check6, find6_none, zero_lists, Result.andThen]
theorem look6_one {w : World} {b : Nat} {f : Nat → Nat} (hf : ∀ j, f j < 256) {val : Value} {t u : Nat} (h : MapAt w b #[⟨arr6 f, val, t⟩] u) (c : Bool) : (Instr.lookup 58 (.map (some b)) (arr6 f) c).run Try.prog w = .ok (if c then .tuple #[val, .bool true] else val) w := by
  simp [Instr.lookup, run_underlying Try.underlying58, MapKept.run_getObj_map h, check6, find6_one f hf, Result.andThen]
/-- book[key] = val, where it has none -/
theorem put6_none {w : World} {b : Nat} (h : MapAt w b #[] 0) (f : Nat → Nat) (val : Value) : (Instr.mapUpdate 58 (.map (some b)) (arr6 f) val).run Try.prog w = .ok () (ChangeMaps.setBlock w b (.map #[⟨arr6 f, val, 0⟩] 1)) := by
  simp [Instr.mapUpdate, run_underlying Try.underlying58, MapKept.run_getObj_map h, check6, find6_none, Result.andThen]
  exact MapKept.run_setObj_map _ h
theorem setB_same {w : World} {b : Nat} {es : Array MapEntry} {t : Nat} (h : MapAt w b es t) (o : Obj) : (ChangeMaps.setBlock w b o).heap[b]? = some o := ChangeMaps.heap_setBlock_same h o
theorem setB_other {w : World} {b : Nat} {es : Array MapEntry} {t : Nat} (h : MapAt w b es t) (o : Obj) {i : Nat} (hi : i ≠ b) : (ChangeMaps.setBlock w b o).heap[i]? = w.heap[i]? := ChangeMaps.heap_setBlock_other h o hi
theorem setB_size (w : World) (b : Nat) (o : Obj) : (ChangeMaps.setBlock w b o).heap.size = w.heap.size := by simp [ChangeMaps.setBlock]
theorem setB_chg {w : World} {b : Nat} {es : Array MapEntry} {t : Nat} (h : MapAt w b es t) (o : Obj) : Chg b (b + 1) w (ChangeMaps.setBlock w b o) :=
  ⟨rfl, rfl, rfl, Nat.le_of_eq (setB_size w b o).symm, fun k _ hk => setB_other h o (by omega)⟩
theorem below_chg {lo hi B : Nat} {w w' : World} (h : Below B w w') (hB : w.heap.size ≤ B) : Chg lo hi w w' := ⟨h.os, h.tape, h.output, h.size, fun k hk _ => h.block k (by omega)⟩
end Go.Proofs.Ytoadjpacchhleaj

namespace Go.Proofs.Ytoadjpacchhleaj
open Go.RowKit F256
set_option linter.unusedVariables false
set_option linter.unusedSimpArgs false

/-- the lineup behind k places -/
def keyN (hv : Nat → Nat) : Nat → Nat → Nat
  | 0, _ => 0
  | k + 1, i => if i = hv k then 1 else keyN hv k i
theorem keyN_lt (hv : Nat → Nat) : ∀ k i, keyN hv k i < 256
  | 0, _ => by simp [keyN]
  | k + 1, i => by
    simp only [keyN]
    split
    · omega
    · exact keyN_lt hv k i
def keyA (hv : Nat → Nat) (k : Nat) : Array Value := #[.int .u8 (keyN hv k 0), .int .u8 (keyN hv k 1), .int .u8 (keyN hv k 2), .int .u8 (keyN hv k 3), .int .u8 (keyN hv k 4), .int .u8 (keyN hv k 5)]
theorem keyA_size (hv : Nat → Nat) (k : Nat) : (keyA hv k).size = 6 := rfl
theorem keyA_set (hv : Nat → Nat) (k p : Nat) (hp : p = hv k) (h6 : p < 6) : (keyA hv k).setIfInBounds p (.int .u8 1) = keyA hv (k + 1) := by
  have : p = 0 ∨ p = 1 ∨ p = 2 ∨ p = 3 ∨ p = 4 ∨ p = 5 := by omega
  rcases this with rfl | rfl | rfl | rfl | rfl | rfl <;> simp [keyA, keyN, ← hp]

set_option maxRecDepth 20000 in
set_option maxHeartbeats 4000000 in
theorem weights_new (B D C : Nat) (vh : Value) (hv : Nat → Nat) (h1 : Nat) (w : World) (hM : MapAt w B #[] 0) (rh : RdI w h1 vh D (fun i => (hv i : Int))) (hh : h1 ≤ w.heap.size) (hD1 : 1 ≤ D) (hD : D ≤ 4) (hC : C ≤ 2) (hbd : ∀ k, k < D → hv k < D + 2) :
    Calls Try.prog 40 #[.map (some B), .int .i64 D, .int .i64 C, vh] w fun e w' => ∃ v', e = .returned v' ∧ OwnM w' w.heap.size w'.heap.size v' (D + C) (fun _ => D) (colW D hv) ∧ MapAt w' B #[⟨arr6 (keyN hv D), v', 0⟩] 1 ∧ Chg B (B + 1) w w' := by
  have HRH : Hid (RdI w h1 vh D (fun i => (hv i : Int))) := rh
  obtain ⟨aoh, caph, rfl, hmm, hch⟩ := rh
  obtain ⟨bh, oh, rfl, hbh, hcell⟩ := hch (by omega)
  have HC : Hid (∀ i, i < D → w.cell? ⟨bh, oh + i, none⟩ = some (.int .i64 (hv i : Int))) := hcell
  have HBD : Hid (∀ k, k < D → hv k < D + 2) := hbd
  have hbw : bh < w.heap.size := by omega
  have hBw := hM.lt
  have HM : Hid (MapAt w B #[] 0) := hM
  clear hch hcell hbd hmm hM
  go_enter Try.func40, Try.ntmps40
  go_wp2
  go_loopw [16] (fun i wr => ∃ k : Nat, k ≤ D ∧ i = .int .i64 k ∧ wr = w.alloc (.cells (keyA hv k) 73)) (fun i _ => D - (intOf i).toNat)
  case atStart => exact ⟨0, Nat.zero_le _, rfl, rfl⟩
  case round =>
    obtain ⟨k, hk, rfl, rfl⟩ := hrel
    by_cases hlt : k < D
    · obtain ⟨p, hp⟩ : ∃ p, p = hv k := ⟨_, rfl⟩
      have ck : (w.alloc (.cells (keyA hv k) 73)).cell? ⟨bh, oh + k, none⟩ = some (.int .i64 (p : Int)) := by
        rw [cell_alloc_old _ _ _ _ hbw, hp]
        exact HC.out k hlt
      have hp6 : p < 6 := by have := HBD.out k hlt; omega
      have hT := keyA_size hv k
      have HP : Hid (p = hv k) := hp
      clear hp
      go_wp2
      go_roundw
      case rel => exact ⟨k + 1, by omega, by go_num, by rw [keyA_set hv k p HP.out hp6]⟩
      case measure => simp [intOf]; omega
    · obtain rfl : k = D := by omega
      obtain ⟨k0, hk0⟩ : ∃ x, x = keyN hv k 0 := ⟨_, rfl⟩
      obtain ⟨k1, hk1⟩ : ∃ x, x = keyN hv k 1 := ⟨_, rfl⟩
      obtain ⟨k2, hk2⟩ : ∃ x, x = keyN hv k 2 := ⟨_, rfl⟩
      obtain ⟨k3, hk3⟩ : ∃ x, x = keyN hv k 3 := ⟨_, rfl⟩
      obtain ⟨k4, hk4⟩ : ∃ x, x = keyN hv k 4 := ⟨_, rfl⟩
      obtain ⟨k5, hk5⟩ : ∃ x, x = keyN hv k 5 := ⟨_, rfl⟩
      have HKA : Hid (arr6 (keyN hv k) = .agg #[.int .u8 k0, .int .u8 k1, .int .u8 k2, .int .u8 k3, .int .u8 k4, .int .u8 k5]) := by
        show arr6 (keyN hv k) = _
        rw [hk0, hk1, hk2, hk3, hk4, hk5]
        rfl
      have ha : keyA hv k = #[.int .u8 k0, .int .u8 k1, .int .u8 k2, .int .u8 k3, .int .u8 k4, .int .u8 k5] := by
        rw [hk0, hk1, hk2, hk3, hk4, hk5]
        rfl
      obtain ⟨wK, hwK⟩ : ∃ wK, wK = w.alloc (.cells (keyA hv k) 73) := ⟨_, rfl⟩
      have BK : Below w.heap.size w wK := by rw [hwK]; exact (Below.refl _ _).alloc (Nat.le_refl _) _
      have XK : Box wK w.heap.size #[.int .u8 k0, .int .u8 k1, .int .u8 k2, .int .u8 k3, .int .u8 k4, .int .u8 k5] 73 := by rw [hwK, ← ha]; exact box_new w _ _
      have MK : MapAt wK B #[] 0 := HM.out.below BK hBw
      have L1 := look6_none MK (keyN hv k)
      rw [HKA.out] at L1
      rw [← hwK]
      have d0 := XK.cell 0
      have d1 := XK.cell 1
      have d2 := XK.cell 2
      have d3 := XK.cell 3
      have d4 := XK.cell 4
      have d5 := XK.cell 5
      simp only [List.getElem?_toArray, List.getElem?_cons_zero, List.getElem?_cons_succ] at d0 d1 d2 d3 d4 d5
      clear ha hwK hk0 hk1 hk2 hk3 hk4 hk5
      go_wp2
      have CW := columnWeights_any k C (.slice (some ⟨bh, oh, none⟩) k caph) hv h1 (wK.drewN 1) (HRH.out.below (below_drewN BK 1) hh) (Nat.le_trans hh BK.size) hD1 hD hC HBD.out
      clear L1 HC
      go_region_with (go_at_call 58; refine CW.mono ?_; rintro ee w3 ⟨v3, rfl, o3, b3⟩; obtain ⟨gW, cW, eW, hW⟩ := o3; have hval := hW.val; subst hval; have b4 : Below wK.heap.size wK w3 := undrewN' b3; have M3 : MapAt w3 B #[] 0 := MK.below b4 (by show B < wK.heap.size; have := BK.size; omega); have PU := put6_none M3 (keyN hv k) (.slice (some ⟨gW, 0, none⟩) (k + C) cW); rw [HKA.out] at PU; have X3 : Box w3 w.heap.size #[.int .u8 k0, .int .u8 k1, .int .u8 k2, .int .u8 k3, .int .u8 k4, .int .u8 k5] 73 := XK.below b4 XK.lt; have f0 : w3.cell? ⟨w.heap.size, 0, none⟩ = some (.int .u8 k0) := X3.cell 0; have f1 : w3.cell? ⟨w.heap.size, 1, none⟩ = some (.int .u8 k1) := X3.cell 1; have f2 : w3.cell? ⟨w.heap.size, 2, none⟩ = some (.int .u8 k2) := X3.cell 2; have f3 : w3.cell? ⟨w.heap.size, 3, none⟩ = some (.int .u8 k3) := X3.cell 3; have f4 : w3.cell? ⟨w.heap.size, 4, none⟩ = some (.int .u8 k4) := X3.cell 4; have f5 : w3.cell? ⟨w.heap.size, 5, none⟩ = some (.int .u8 k5) := X3.cell 5)
      all_goals
        obtain ⟨w5, hw5⟩ : ∃ w5, w5 = ChangeMaps.setBlock w3 B (.map #[⟨.agg #[.int .u8 k0, .int .u8 k1, .int .u8 k2, .int .u8 k3, .int .u8 k4, .int .u8 k5], .slice (some ⟨gW, 0, none⟩) (k + C) cW, 0⟩] 1) := ⟨_, rfl⟩
        have sK := BK.size
        have s4 := b4.size
        have hs5 : w5.heap.size = w3.heap.size := by rw [hw5]; exact setB_size _ _ _
        have M5 : MapAt w5 B #[⟨arr6 (keyN hv k), .slice (some ⟨gW, 0, none⟩) (k + C) cW, 0⟩] 1 := by rw [hw5, HKA.out]; exact setB_same M3 _
        have C5 : Chg B (B + 1) w w5 := by
          have h5 := setB_chg M3 (.map #[⟨.agg #[.int .u8 k0, .int .u8 k1, .int .u8 k2, .int .u8 k3, .int .u8 k4, .int .u8 k5], .slice (some ⟨gW, 0, none⟩) (k + C) cW, 0⟩] 1)
          rw [← hw5] at h5
          exact ((below_chg (lo := B) (hi := B + 1) BK (Nat.le_refl _)).trans (below_chg b4 (Nat.le_refl _))).trans h5
        have oth : ∀ b, b ≠ B → w5.heap[b]? = w3.heap[b]? := fun b hb => by rw [hw5]; exact setB_other M3 _ hb
        have OM : OwnM w5 w.heap.size w5.heap.size (.slice (some ⟨gW, 0, none⟩) (k + C) cW) (k + C) (fun _ => k) (colW k hv) := by
          have h6 := hW.keep (w2 := w5) (fun b hb1 _ => oth b (by have hb2 : wK.heap.size ≤ b := hb1; omega))
          have h7 : OwnM w5 wK.heap.size w3.heap.size (.slice (some ⟨gW, 0, none⟩) (k + C) cW) (k + C) (fun _ => k) (colW k hv) := ⟨_, _, _, h6⟩
          exact h7.weaken sK (by omega)
        have L5 := look6_one (keyN_lt hv k) M5 false
        rw [HKA.out] at L5
        simp only [Bool.false_eq_true, if_false] at L5
        have X5 : Box w5 w.heap.size #[.int .u8 k0, .int .u8 k1, .int .u8 k2, .int .u8 k3, .int .u8 k4, .int .u8 k5] 73 := (oth _ (by omega)).trans X3
        have g0 : w5.cell? ⟨w.heap.size, 0, none⟩ = some (.int .u8 k0) := X5.cell 0
        have g1 : w5.cell? ⟨w.heap.size, 1, none⟩ = some (.int .u8 k1) := X5.cell 1
        have g2 : w5.cell? ⟨w.heap.size, 2, none⟩ = some (.int .u8 k2) := X5.cell 2
        have g3 : w5.cell? ⟨w.heap.size, 3, none⟩ = some (.int .u8 k3) := X5.cell 3
        have g4 : w5.cell? ⟨w.heap.size, 4, none⟩ = some (.int .u8 k4) := X5.cell 4
        have g5 : w5.cell? ⟨w.heap.size, 5, none⟩ = some (.int .u8 k5) := X5.cell 5
        have HOM : Hid (OwnM w5 w.heap.size w5.heap.size (.slice (some ⟨gW, 0, none⟩) (k + C) cW) (k + C) (fun _ => k) (colW k hv)) := OM
        have HM5 : Hid (MapAt w5 B #[⟨arr6 (keyN hv k), .slice (some ⟨gW, 0, none⟩) (k + C) cW, 0⟩] 1) := M5
        rw [← hw5]
        clear hw5 oth PU M3 X3 f0 f1 f2 f3 f4 f5 b3 b4 hW CW MK BK XK d0 d1 d2 d3 d4 d5 OM M5
        go_wp2
        go_ret
        exact ⟨_, rfl, HOM.out, HM5.out, C5⟩

set_option maxRecDepth 20000 in
set_option maxHeartbeats 4000000 in
theorem weights_old (B D C : Nat) (vh : Value) (hv : Nat → Nat) (h1 : Nat) (w : World) (t u : Nat) (ao : Option Addr) (nv cv : Nat) (hM : MapAt w B #[⟨arr6 (keyN hv D), .slice ao nv cv, t⟩] u) (rh : RdI w h1 vh D (fun i => (hv i : Int))) (hh : h1 ≤ w.heap.size) (hD1 : 1 ≤ D) (hD : D ≤ 4) (hbd : ∀ k, k < D → hv k < D + 2) :
    Calls Try.prog 40 #[.map (some B), .int .i64 D, .int .i64 C, vh] w fun e w' => e = .returned (.slice ao nv cv) ∧ Below w.heap.size w w' := by
  obtain ⟨aoh, caph, rfl, hmm, hch⟩ := rh
  obtain ⟨bh, oh, rfl, hbh, hcell⟩ := hch (by omega)
  have HC : Hid (∀ i, i < D → w.cell? ⟨bh, oh + i, none⟩ = some (.int .i64 (hv i : Int))) := hcell
  have HBD : Hid (∀ k, k < D → hv k < D + 2) := hbd
  have hbw : bh < w.heap.size := by omega
  have hBw := hM.lt
  have HM : Hid (MapAt w B #[⟨arr6 (keyN hv D), .slice ao nv cv, t⟩] u) := hM
  clear hch hcell hbd hmm hM
  go_enter Try.func40, Try.ntmps40
  go_wp2
  go_loopw [16] (fun i wr => ∃ k : Nat, k ≤ D ∧ i = .int .i64 k ∧ wr = w.alloc (.cells (keyA hv k) 73)) (fun i _ => D - (intOf i).toNat)
  case atStart => exact ⟨0, Nat.zero_le _, rfl, rfl⟩
  case round =>
    obtain ⟨k, hk, rfl, rfl⟩ := hrel
    by_cases hlt : k < D
    · obtain ⟨p, hp⟩ : ∃ p, p = hv k := ⟨_, rfl⟩
      have ck : (w.alloc (.cells (keyA hv k) 73)).cell? ⟨bh, oh + k, none⟩ = some (.int .i64 (p : Int)) := by
        rw [cell_alloc_old _ _ _ _ hbw, hp]
        exact HC.out k hlt
      have hp6 : p < 6 := by have := HBD.out k hlt; omega
      have hT := keyA_size hv k
      have HP : Hid (p = hv k) := hp
      clear hp
      go_wp2
      go_roundw
      case rel => exact ⟨k + 1, by omega, by go_num, by rw [keyA_set hv k p HP.out hp6]⟩
      case measure => simp [intOf]; omega
    · obtain rfl : k = D := by omega
      obtain ⟨k0, hk0⟩ : ∃ x, x = keyN hv k 0 := ⟨_, rfl⟩
      obtain ⟨k1, hk1⟩ : ∃ x, x = keyN hv k 1 := ⟨_, rfl⟩
      obtain ⟨k2, hk2⟩ : ∃ x, x = keyN hv k 2 := ⟨_, rfl⟩
      obtain ⟨k3, hk3⟩ : ∃ x, x = keyN hv k 3 := ⟨_, rfl⟩
      obtain ⟨k4, hk4⟩ : ∃ x, x = keyN hv k 4 := ⟨_, rfl⟩
      obtain ⟨k5, hk5⟩ : ∃ x, x = keyN hv k 5 := ⟨_, rfl⟩
      have HKA : Hid (arr6 (keyN hv k) = .agg #[.int .u8 k0, .int .u8 k1, .int .u8 k2, .int .u8 k3, .int .u8 k4, .int .u8 k5]) := by
        show arr6 (keyN hv k) = _
        rw [hk0, hk1, hk2, hk3, hk4, hk5]
        rfl
      have ha : keyA hv k = #[.int .u8 k0, .int .u8 k1, .int .u8 k2, .int .u8 k3, .int .u8 k4, .int .u8 k5] := by
        rw [hk0, hk1, hk2, hk3, hk4, hk5]
        rfl
      obtain ⟨wK, hwK⟩ : ∃ wK, wK = w.alloc (.cells (keyA hv k) 73) := ⟨_, rfl⟩
      have BK : Below w.heap.size w wK := by rw [hwK]; exact (Below.refl _ _).alloc (Nat.le_refl _) _
      have XK : Box wK w.heap.size #[.int .u8 k0, .int .u8 k1, .int .u8 k2, .int .u8 k3, .int .u8 k4, .int .u8 k5] 73 := by rw [hwK, ← ha]; exact box_new w _ _
      have MK : MapAt wK B #[⟨arr6 (keyN hv k), .slice ao nv cv, t⟩] u := HM.out.below BK hBw
      have L1 := look6_one (keyN_lt hv k) MK true
      have L2 := look6_one (keyN_lt hv k) MK false
      rw [HKA.out] at L1 L2
      simp only [Bool.false_eq_true, if_false, if_true] at L1 L2
      rw [← hwK]
      have d0 : wK.cell? ⟨w.heap.size, 0, none⟩ = some (.int .u8 k0) := XK.cell 0
      have d1 : wK.cell? ⟨w.heap.size, 1, none⟩ = some (.int .u8 k1) := XK.cell 1
      have d2 : wK.cell? ⟨w.heap.size, 2, none⟩ = some (.int .u8 k2) := XK.cell 2
      have d3 : wK.cell? ⟨w.heap.size, 3, none⟩ = some (.int .u8 k3) := XK.cell 3
      have d4 : wK.cell? ⟨w.heap.size, 4, none⟩ = some (.int .u8 k4) := XK.cell 4
      have d5 : wK.cell? ⟨w.heap.size, 5, none⟩ = some (.int .u8 k5) := XK.cell 5
      clear ha hwK hk0 hk1 hk2 hk3 hk4 hk5
      go_wp2
      go_ret
      exact ⟨rfl, BK⟩
end Go.Proofs.Ytoadjpacchhleaj

namespace Go.Proofs.Ytoadjpacchhleaj
open Go.RowKit F256
set_option linter.unusedVariables false
set_option linter.unusedSimpArgs false

/-- the least number that may come next -/
def leastN (g : Nat → Int) : Nat → Int
  | 0 => 0
  | k + 1 => g k + 1
theorem rise_next {g : Nat → Int} {most : Int} {k : Nat} (h : RiseP k g most) (h1 : leastN g k ≤ g k) (h2 : g k ≤ most) : RiseP (k + 1) g most := fun i hi => by
  by_cases c : i = k
  · subst c
    cases i with
    | zero => exact ⟨h1, h2, fun h0 => by omega⟩
    | succ j =>
      have := (h j (by omega)).1
      simp only [leastN] at h1
      exact ⟨by omega, h2, fun _ => by rw [show j + 1 - 1 = j by omega]; omega⟩
  · exact h i (by omega)
theorem rise_least {g : Nat → Int} {most : Int} {n k : Nat} (h : RiseP n g most) (hk : k < n) : leastN g k ≤ g k := by
  cases k with
  | zero => exact (h 0 hk).1
  | succ j =>
    have := (h (j + 1) hk).2.2 (by omega)
    rw [show j + 1 - 1 = j by omega] at this
    simp only [leastN]
    omega

set_option maxHeartbeats 2000000 in
theorem risesWithin_any (v : Value) (n : Nat) (g : Nat → Int) (hi : Nat) (bound : Int) (hb : bound ≤ 1000000) (w : World) (r : RdI w hi v n g) :
    Calls Try.prog 38 #[v, .int .i64 bound] w (BoolP (RiseP n g (bound - 1)) w) := by
  obtain ⟨ao, cap, rfl, hm, hc⟩ := r
  unfold maxLen at hm
  go_enter Try.func38, Try.ntmps38
  go_wp2
  go_loop [5, 10] (fun l i => ∃ k : Nat, k ≤ n ∧ i = .int .i64 k ∧ l = .int .i64 (leastN g k) ∧ RiseP k g (bound - 1)) (fun _ i => n - (intOf i).toNat)
  case atStart => exact ⟨0, Nat.zero_le _, rfl, rfl, fun i hi => by omega⟩
  case round =>
    obtain ⟨k, hk, rfl, rfl, hall⟩ := hrel
    have HALL : Hid (RiseP k g (bound - 1)) := hall
    clear hall
    by_cases hlt : k < n
    · obtain ⟨b, off, rfl, hblt, hcell⟩ := hc (by omega)
      have hck : w.cell? ⟨b, off + k, none⟩ = some (.int .i64 (g k)) := hcell k hlt
      obtain ⟨x, hx⟩ : ∃ x, x = g k := ⟨_, rfl⟩
      have HX : Hid (x = g k) := hx
      rw [← hx] at hck
      obtain ⟨l, hl⟩ : ∃ l, l = leastN g k := ⟨_, rfl⟩
      have HL : Hid (l = leastN g k) := hl
      rw [← hl]
      have hl0 : 0 ≤ l := by
        rw [hl]
        cases k with
        | zero => exact Int.le_refl _
        | succ j =>
          have := (HALL.out j (by omega)).1
          simp only [leastN]
          omega
      clear hc hcell hx hl
      by_cases h1 : x < l
      · have HNO : Hid (¬ RiseP n g (bound - 1)) := fun h => by
          have := rise_least h hlt
          rw [← HX.out, ← HL.out] at this
          omega
        go_wp2
        go_ret
        exact boolNo rfl HNO.out (Below.refl _ _)
      · have e1 : decide (x < l) = false := by simp; omega
        by_cases h2 : bound ≤ x
        · have HNO : Hid (¬ RiseP n g (bound - 1)) := fun h => by
            have := (h k hlt).2.1
            rw [← HX.out] at this
            omega
          clear h1
          go_wp2
          go_ret
          exact boolNo rfl HNO.out (Below.refl _ _)
        · have e2 : decide (bound ≤ x) = false := by simp; omega
          have HRN : Hid (RiseP (k + 1) g (bound - 1)) := rise_next HALL.out (by rw [← HX.out, ← HL.out]; omega) (by rw [← HX.out]; omega)
          have hxb : x ≤ 1000000 := by omega
          have hx0 : 0 ≤ x := by omega
          have HLN : Hid (x + 1 = leastN g (k + 1)) := by show x + 1 = g k + 1; rw [HX.out]
          have wadd : IntKind.i64.wrap (x + 1) = x + 1 := by rw [IntKind.wrap_i64]; omega
          clear h1 h2
          go_wp2
          go_round
          case rel => exact ⟨k + 1, by omega, by go_num, by rw [← HLN.out], HRN.out⟩
          case measure => simp [intOf]; omega
    · obtain rfl : k = n := by omega
      clear hc
      go_wp2
      go_ret
      exact boolYes rfl HALL.out (Below.refl _ _)

end Go.Proofs.Ytoadjpacchhleaj

namespace Go.Proofs.Ytoadjpacchhleaj
open Go.RowKit F256
set_option linter.unusedVariables false
set_option linter.unusedSimpArgs false

/-- append(v, x), x a number that lies in a block of its own: what else is left -/
theorem wp_appendIt {ops : Array Oper} {rest : List Oper} {o : Oper} {a : Act} {w : World} {Q : Exit → Act → World → Prop}
    (hg : o.guard = none) (s x : Operand) (hop : o.op = Op.call { callee := Callee.builtin Builtin.append, args := #[s, x], argTypes := #[22, 22] })
    (lo hi : Nat) (v : Value) (n : Nat) (f : Nat → Int) (hs : a.eval s = v) (hown : OwnI w lo hi v n f) (b c : Nat) (hx : a.eval x = .slice (some ⟨b, 0, none⟩) 1 c) (hcell : w.cell? ⟨b, 0, none⟩ = some (.int .i64 (f n)))
    (hn : n + 1 ≤ 1000000) (hlo : lo ≤ w.heap.size)
    (hK : ∀ v' w', OwnI w' lo w'.heap.size v' (n + 1) f → w.grownBy w' v.ownBlock → wpList Try.prog ops Q rest (a.put o.dst v') w') : wpList Try.prog ops Q (o :: rest) a w := by
  obtain ⟨i0, hi0, hz0, hz1, hz2⟩ := info_parts info_i64
  refine wpList_append_own w hg s x 22 hop lo 2 i0 (.int .i64 0) 1 8 Try.underlying22 hi0 hz0 hz1 hz2 rfl (by decide) v n (intsOf n f) hs hown.1 ⟨b, 0, none⟩ 1 c [.int .i64 (f n)] hx rfl ?_ ?_ (by unfold maxLen; omega) (by omega) hlo ?_
  · intro j u hj
    match j, hj with
    | 0, hj => simp at hj; subst hj; simpa [Addr.add] using hcell
  · intro u hu
    simp at hu
    subst hu
    rfl
  · intro v' w' h1 h2 _
    rw [intsOf_snoc] at h1
    exact hK v' w' ⟨h1, fun k hk => (h1.lt k hk).2⟩ h2
/-- a row of slices and a row of numbers lie in two blocks -/
theorem two_types {w : World} {lo lo' hi : Nat} {v x : Value} {k n : Nat} {xs : List Value} {f : Nat → Int} (h : w.ownsRow lo 23 1 v k xs) (ho : OwnI w lo' hi x n f) (b : Nat) (hb : v.ownBlock = some b) : x.ownBlock ≠ some b := by
  intro hx
  rcases h.2 with ⟨rfl, _⟩ | ⟨g, cap, cur, rfl, _, hg, _⟩
  · cases hb
  · rcases ho.1.2 with ⟨rfl, _⟩ | ⟨g', cap', cur', rfl, _, hg', _⟩
    · cases hx
    · simp [Value.ownBlock] at hb hx
      subst hb
      subst hx
      rw [hg] at hg'
      simp at hg'
theorem OwnI.kept {w w' : World} {lo hi : Nat} {v : Value} {n : Nat} {f : Nat → Int} (h : OwnI w lo hi v n f) (hk : ∀ g, v.ownBlock = some g → w'.heap[g]? = w.heap[g]?) : OwnI w' lo hi v n f := by
  refine ⟨⟨h.1.1, ?_⟩, h.2⟩
  rcases h.1.2 with hn | ⟨g, cap, cur, rfl, hbg, hgg, rest⟩
  · exact .inl hn
  · exact .inr ⟨g, cap, cur, rfl, hbg, (hk g rfl).trans hgg, rest⟩

end Go.Proofs.Ytoadjpacchhleaj

namespace Go.Proofs.Ytoadjpacchhleaj
open Go.RowKit F256
set_option linter.unusedVariables false
set_option linter.unusedSimpArgs false

/-- make([]int64, 0, n) -/
theorem wp_makeI0 (w : World) {ops : Array Oper} {rest : List Oper} {o : Oper} {a : Act} {Q : Exit → Act → World → Prop}
    (hg : o.guard = none) (l c : Operand) (hop : o.op = Op.makeSlice 22 l c) (C : Int) (n : Nat) (hl : a.eval l = .int .i64 0) (hc : a.eval c = .int .i64 C) (hC : C = (n : Int)) (hn : n ≤ 1000000000)
    (hK : ∀ w', (∀ f, OwnI w' w.heap.size w'.heap.size (.slice (some ⟨w.heap.size, 0, none⟩) 0 n) 0 f) → Below w.heap.size w w' → w.heap.size < w'.heap.size → wpList Try.prog ops Q rest (a.put o.dst (.slice (some ⟨w.heap.size, 0, none⟩) 0 n)) w') :
    wpList Try.prog ops Q (o :: rest) a w := by
  obtain ⟨i0, hi0, hz0, hz1, hz2⟩ := info_parts info_i64
  refine wpList_make_own w hg l c 22 hop w.heap.size 2 i0 (.int .i64 0) 1 Try.underlying22 hi0 hz0 hz1 .i64 .i64 C n hl hc hC (by rw [hz2]; omega) (by unfold maxLen; omega) (Nat.le_refl _) ?_
  intro w' hown hgrow
  have hlt := (hown.lt _ rfl).2
  exact hK w' (fun f => ⟨hown, fun k hk => (hown.lt k hk).2⟩) (below_of_grown hgrow) hlt

/-- how many are picked of the first k -/
def pickN (D : Nat) (n : Nat → Nat) (k : Nat) : Nat := if cntN n k < D then cntN n k else D
theorem pickN_zero (D : Nat) (n : Nat → Nat) : pickN D n 0 = 0 := by
  have h0 : cntN n 0 = 0 := rfl
  unfold pickN
  rw [h0]
  by_cases c : 0 < D
  · rw [if_pos c]
  · rw [if_neg c]; omega
theorem pickN_none {D : Nat} {n : Nat → Nat} {k : Nat} (h : n k = 0) : pickN D n (k + 1) = pickN D n k := by
  unfold pickN
  rw [cntN, if_pos h]
theorem pickN_more {D : Nat} {n : Nat → Nat} {k : Nat} (h : n k ≠ 0) (hl : pickN D n k < D) : pickN D n (k + 1) = pickN D n k + 1 ∧ pickN D n k = cntN n k := by
  unfold pickN at hl ⊢
  rw [cntN, if_neg h]
  by_cases c : cntN n k < D
  · rw [if_pos c]
    refine ⟨?_, rfl⟩
    split <;> omega
  · rw [if_neg c] at hl
    omega
theorem pickN_full {D : Nat} {n : Nat → Nat} {k : Nat} (hl : ¬ pickN D n k < D) : pickN D n (k + 1) = pickN D n k := by
  unfold pickN at hl ⊢
  by_cases c : cntN n k < D
  · rw [if_pos c] at hl
    omega
  · have := cntN_mono n (show k ≤ k + 1 by omega)
    rw [if_neg c, if_neg (by omega)]
theorem pickN_all {D : Nat} {n : Nat → Nat} {k : Nat} (h : D ≤ cntN n k) : pickN D n k = D := by
  unfold pickN
  rw [if_neg (by omega)]
theorem pickN_few {D : Nat} {n : Nat → Nat} {k : Nat} (h : ¬ D ≤ cntN n k) : pickN D n k < D := by
  unfold pickN
  rw [if_pos (by omega)]
  omega

set_option maxHeartbeats 2000000 in
theorem firstThere_any (D : Nat) (v : Value) (R : Nat) (n : Nat → Nat) (f : Nat → Nat → Nat) (h1 : Nat) (w : World) (r : RdM w h1 v R n f) (hh : h1 ≤ w.heap.size) (hD : D ≤ 1000) :
    Calls Try.prog 48 #[.int .i64 D, v] w fun e w' => ∃ v', e = .returned v' ∧ OwnI w' w.heap.size w'.heap.size v' (pickN D n R) (fun t => (nthN n R t : Int)) ∧ Below w.heap.size w w' := by
  obtain ⟨ao, cap, e, rfl, hm, hc, he⟩ := r
  unfold maxLen at hm
  have HHE : Hid (∀ i, i < R → Rd w h1 (e i) (n i) (f i)) := he
  have HHC : Hid (R ≠ 0 → ∃ b off, ao = some ⟨b, off, none⟩ ∧ b < h1 ∧ ∀ i, i < R → w.cell? ⟨b, off + i, none⟩ = some (e i)) := hc
  clear hc he
  go_enter Try.func48, Try.ntmps48
  go_wp2_with (at_make; refine wp_makeI0 _ rfl _ _ rfl _ D rfl rfl rfl (by omega) ?_; intro w1 hown1 hb1 hz1)
  have I0 := hown1 (fun t => (nthN n R t : Int))
  clear hown1
  go_loopw [5, 11] (fun vh i wr => ∃ c k : Nat, k ≤ R ∧ i = .int .i64 k ∧ c = pickN D n k ∧ OwnI wr w.heap.size wr.heap.size vh c (fun t => (nthN n R t : Int)) ∧ Below w.heap.size w wr) (fun _ i _ => R - (intOf i).toNat)
  case atStart => exact ⟨0, 0, Nat.zero_le _, rfl, (pickN_zero D n).symm, I0, hb1⟩
  case round =>
    clear I0 hb1 hz1
    obtain ⟨c, k, hk, rfl, hck, hI, hb⟩ := hrel
    have HCK : Hid (c = pickN D n k) := hck
    have HI : Hid (OwnI wr w.heap.size wr.heap.size u5 c (fun t => (nthN n R t : Int))) := hI
    have HB : Hid (Below w.heap.size w wr) := hb
    obtain ⟨ao8, cap8, hs8⟩ := hI.slice
    subst hs8
    have szr := hb.size
    have hcD : c ≤ D := by
      rw [hck]
      unfold pickN
      split <;> omega
    clear hck
    by_cases hlt : k < R
    · obtain ⟨b, off, hao, hblt, hcell⟩ := HHC.out (by omega)
      subst hao
      have c1 : wr.cell? ⟨b, off + k, none⟩ = some (e k) := (hb.cell (p := ⟨b, off + k, none⟩) (by show b < w.heap.size; omega)).trans (hcell k hlt)
      obtain ⟨aok, capk, hsk, hmk, hqk⟩ := HHE.out k hlt
      unfold maxLen at hmk
      obtain ⟨nk, hnk⟩ : ∃ x, x = n k := ⟨_, rfl⟩
      have HNK : Hid (nk = n k) := hnk
      rw [hsk, ← hnk] at c1
      rw [← hnk] at hmk
      clear hnk hsk hqk hcell hI hb
      by_cases e1 : nk = 0
      · have HN0 : Hid (nk = 0) := e1
        have t1 : decide ((0 : Int) < (nk : Int)) = false := by simp; omega
        have t1n : decide (0 < nk) = false := by simp; omega
        clear e1
        go_wp2
        go_roundw
        case rel => exact ⟨c, k + 1, by omega, by go_num, by rw [pickN_none (by rw [← HNK.out]; exact HN0.out)]; exact HCK.out, HI.out, HB.out⟩
        case measure => simp [intOf]; omega
      · have HN0 : Hid (nk ≠ 0) := e1
        have t1 : (0 : Int) < (nk : Int) := by omega
        have t1n : decide (0 < nk) = true := by simp; omega
        have hbw : b < w.heap.size := by omega
        clear e1
        by_cases hcd : c < D
        · have t2 : (c : Int) < (D : Int) := by omega
          have HPM := pickN_more (D := D) (n := n) (k := k) (by rw [← HNK.out]; exact HN0.out) (by rw [← HCK.out]; exact hcd)
          have HNT : Hid (nthN n R c = k) := by
            show nthN n R c = k
            rw [HCK.out, HPM.2]
            exact nthN_is hlt (by rw [← HNK.out]; exact HN0.out)
          have HP1 : Hid (pickN D n (k + 1) = c + 1) := by show pickN D n (k + 1) = c + 1; rw [HPM.1, ← HCK.out]
          clear HPM
          go_wp2_with (at_builtin; refine wp_appendIt rfl (.tmp 26) (.tmp 28) rfl w.heap.size wr.heap.size (.slice ao8 c cap8) c (fun t => (nthN n R t : Int)) ?_ ?_ wr.heap.size 1 ?_ ?_ (by omega) ?_ ?_; (simp [Act.eval]); exact HI.out.alloc _; (simp [Act.eval]); (rw [HNT.out]; simp); (simp; omega); intro v2 w2 o2 g2)
          have b2 : Below w.heap.size wr w2 := ((Below.refl w.heap.size wr).alloc szr _).grown g2 (by simp; omega) (fun q hq => (HI.out.1.lt q hq).1)
          have b5 : Below w.heap.size w w2 := HB.out.trans b2
          clear g2 b2 c1 HI HB
          go_wp2
          go_roundw
          case rel => exact ⟨c + 1, k + 1, by omega, by go_num, HP1.out.symm, o2, b5⟩
          case measure => simp [intOf]; omega
        · have t2 : decide ((c : Int) < (D : Int)) = false := by simp; omega
          have t2n : decide (c < D) = false := by simp; omega
          have HP1 : Hid (c = pickN D n (k + 1)) := by
            show c = pickN D n (k + 1)
            rw [pickN_full (by rw [← HCK.out]; exact hcd)]
            exact HCK.out
          clear hcd
          go_wp2
          go_roundw
          case rel => exact ⟨c, k + 1, by omega, by go_num, HP1.out, HI.out, HB.out⟩
          case measure => simp [intOf]; omega
    · obtain rfl : k = R := by omega
      have HI2 : Hid (OwnI wr w.heap.size wr.heap.size (.slice ao8 c cap8) (pickN D n k) (fun t => (nthN n k t : Int))) := by
        show OwnI wr w.heap.size wr.heap.size (.slice ao8 c cap8) (pickN D n k) (fun t => (nthN n k t : Int))
        rw [← HCK.out]; exact hI
      clear hI
      go_wp2
      go_ret
      exact ⟨_, rfl, HI2.out, hb⟩

set_option maxHeartbeats 1000000 in
theorem index_any (v : Value) (n : Nat) (g : Nat → Int) (hi : Nat) (x : Int) (w : World) (r : RdI w hi v n g) :
    Calls Try.prog 57 #[v, .int .i64 x] w fun e w' => ∃ z : Int, e = .returned (.int .i64 z) ∧ (0 ≤ z ↔ ∃ t, t < n ∧ g t = x) ∧ w' = w := by
  obtain ⟨ao, cap, rfl, hm, hc⟩ := r
  unfold maxLen at hm
  go_enter Try.func57, Try.ntmps57
  go_wp2
  go_loop [8] (fun i => ∃ k : Nat, k ≤ n ∧ i = .int .i64 k ∧ ∀ i, i < k → g i ≠ x) (fun i => n - (intOf i).toNat)
  case atStart => exact ⟨0, Nat.zero_le _, rfl, fun i hi => by omega⟩
  case round =>
    obtain ⟨k, hk, rfl, hall⟩ := hrel
    have HALL : Hid (∀ i, i < k → g i ≠ x) := hall
    clear hall
    by_cases hlt : k < n
    · obtain ⟨b, off, rfl, hblt, hcell⟩ := hc (by omega)
      have hck : w.cell? ⟨b, off + k, none⟩ = some (.int .i64 (g k)) := hcell k hlt
      obtain ⟨y, hy⟩ : ∃ y, y = g k := ⟨_, rfl⟩
      have HY : Hid (y = g k) := hy
      rw [← hy] at hck
      clear hc hcell hy
      by_cases heq : x = y
      · have HP : Hid (0 ≤ (k : Int) ↔ ∃ t, t < n ∧ g t = x) := ⟨fun _ => ⟨k, hlt, by rw [← HY.out, heq]⟩, fun _ => by omega⟩
        have te : (x == y) = true := by simp [heq]
        clear heq
        go_wp2
        go_ret
        exact ⟨_, rfl, HP.out, rfl⟩
      · have te : (x == y) = false := by simp [heq]
        have HN : Hid (g k ≠ x) := by show g k ≠ x; rw [← HY.out]; exact fun h => heq h.symm
        clear heq
        go_wp2
        go_round
        case rel => exact ⟨k + 1, by omega, by go_num, fun i hi => by
                      by_cases c : i = k
                      · rw [c]; exact HN.out
                      · exact HALL.out i (by omega)⟩
        case measure => simp [intOf]; omega
    · obtain rfl : k = n := by omega
      have HP : Hid (0 ≤ (-1 : Int) ↔ ∃ t, t < k ∧ g t = x) := ⟨fun h => by omega, fun ⟨t, ht, he⟩ => absurd he (HALL.out t ht)⟩
      clear hc
      go_wp2
      go_ret
      exact ⟨-1, rfl, HP.out, rfl⟩

theorem contains_any (v : Value) (n : Nat) (g : Nat → Int) (hi : Nat) (x : Int) (w : World) (r : RdI w hi v n g) :
    Calls Try.prog 39 #[v, .int .i64 x] w (BoolP (∃ t, t < n ∧ g t = x) w) := by
  have C := index_any v n g hi x w r
  obtain ⟨ao, cap, rfl, hm, hc⟩ := r
  clear hc hm
  have HI : Hid (Calls Try.prog 57 #[.slice ao n cap, .int .i64 x] w fun e w' => ∃ z : Int, e = .returned (.int .i64 z) ∧ (0 ≤ z ↔ ∃ t, t < n ∧ g t = x) ∧ w' = w) := C
  clear C
  obtain ⟨P, hP⟩ : ∃ P : Prop, P = ∃ t, t < n ∧ g t = x := ⟨_, rfl⟩
  rw [← hP] at HI ⊢
  clear hP
  go_enter Try.func39, Try.ntmps39
  go_wp2_with fail
  refine HI.out.mono ?_
  rintro e w1 ⟨z, rfl, hz, hw1⟩
  obtain rfl := hw1.symm
  have HZ : Hid (0 ≤ z ↔ P) := hz
  clear hz HI
  by_cases h0 : 0 ≤ z
  · have HP : Hid P := HZ.out.mp h0
    go_wp2
    go_ret
    exact boolYes rfl HP.out (Below.refl _ _)
  · have HP : Hid (¬ P) := fun h => h0 (HZ.out.mpr h)
    have td : decide (0 ≤ z) = false := by simp; omega
    clear h0
    go_wp2
    go_ret
    exact boolNo rfl HP.out (Below.refl _ _)
end Go.Proofs.Ytoadjpacchhleaj

namespace Go.Proofs.Ytoadjpacchhleaj
open F256

theorem mixN_dotC (f : Mat) (c : Nat → Nat) (j : Nat) : ∀ k, mixN f c k j = dotN c (fun t => f t j) k
  | 0 => rfl
  | k + 1 => by rw [mixN, dotN, mixN_dotC f c j k]
theorem mixN_sameC {f g : Mat} {c : Nat → Nat} {j : Nat} : ∀ {k : Nat}, (∀ i, i < k → f i j = g i j) → mixN f c k j = mixN g c k j
  | 0, _ => rfl
  | k + 1, h => by rw [mixN, mixN, mixN_sameC (fun i hi => h i (by omega)), h k (by omega)]
/-- the lists of a column: R of data, the parity behind them -/
def allN (R : Nat) (f : Mat) : Mat := fun p => if p < R then f p else parN R f (p - R)
theorem allN_byt {R : Nat} {f : Mat} (kf : Byt f) : Byt (allN R f) := fun p t => by
  unfold allN
  split
  · exact kf p t
  · exact parN_byt R f _ _
theorem allN_dot {R : Nat} {f : Mat} (kf : Byt f) (p t : Nat) : allN R f p t = dotN (genN R p 8) (fun i => f i t) R := by
  unfold allN
  by_cases c : p < R
  · rw [if_pos c, dotN_gen (x := fun i => f i t) (fun i => kf _ _) c]
  · rw [if_neg c]
    unfold parN
    rw [mixN_dotC, show R + (p - R) = p by omega]
/-- what is picked lies one behind the other -/
theorem pickedC {D R : Nat} {n : Nat → Nat} (hc : D ≤ cntN n R) : (∀ t, t < D → nthN n R t < R ∧ n (nthN n R t) ≠ 0) ∧ ∀ t, t + 1 < D → nthN n R t < nthN n R (t + 1) := by
  refine ⟨fun t ht => ?_, fun t ht => nthN_rise (by omega)⟩
  have q := nthN_spec (n := n) (R := R) (k := t) (by omega)
  exact ⟨q.1, q.2.1⟩
theorem col_back {D R : Nat} {n : Nat → Nat} {f : Mat} (hD1 : 1 ≤ D) (hD : D ≤ 4) (hR : R ≤ D + 2) (hc : D ≤ cntN n R) (kf : Byt f) (p t : Nat) : colN D n R (allN D f) p t = allN D f p t := by
  obtain ⟨p1, p2⟩ := pickedC hc
  have hfull := col_full D hD1 hD (nthN n R) (genN D p 8) (fun t ht => by have := (p1 t ht).1; omega) p2
  have hs := weights_sum (x := fun i => f i t) (fun i => kf _ _) hfull
  unfold colN
  rw [mixN_dotC, allN_dot kf, ← hs]
  exact dotN_congr2 fun k _ => allN_dot kf _ _
theorem par_all {D : Nat} {f : Mat} (j t : Nat) : parN D (allN D f) j t = parN D f j t := by
  unfold parN
  exact mixN_sameC fun i hi => by unfold allN; rw [if_pos hi]
/-- a column with its parity fits -/
theorem fits_col {D c N : Nat} {f : Mat} (hs : Shp3 (D : Int) (c : Int)) : CfP (D + c) (fun _ => N) (allN D f) (c : Int) := by
  obtain ⟨h1, h2, h3, h4⟩ := hs
  refine ⟨⟨h3, h4⟩, ?_, fun _ _ => rfl, fun j hj t ht => ?_⟩
  · exact ⟨by omega, by omega, h3, h4⟩
  · rw [Int.toNat_natCast] at hj ⊢
    rw [show D + c - c = D by omega, par_all]
    unfold allN
    rw [if_neg (by omega), show D + j - D = j by omega]
/-- one list less -/
def lessC (n : Nat → Nat) (r : Nat) : Nat → Nat := fun i => if i = r then 0 else n i
theorem cnt_lessC (n : Nat → Nat) (r : Nat) : ∀ R, cntN n R ≤ cntN (lessC n r) R + (if r < R then 1 else 0)
  | 0 => Nat.zero_le _
  | R + 1 => by
    have ih := cnt_lessC n r R
    by_cases e : R = r
    · subst e
      rw [if_neg (Nat.lt_irrefl R)] at ih
      rw [if_pos (Nat.lt_succ_self R)]
      have h1 : cntN n (R + 1) ≤ cntN n R + 1 := by rw [cntN]; split <;> omega
      have h2 := cntN_mono (lessC n R) (show R ≤ R + 1 by omega)
      omega
    · have h1 : lessC n r R = n R := by unfold lessC; rw [if_neg e]
      have h3 : (if r < R + 1 then 1 else 0) = (if r < R then 1 else 0 : Nat) := by
        by_cases c : r < R
        · rw [if_pos c, if_pos (by omega)]
        · rw [if_neg c, if_neg (by omega)]
      rw [h3]
      by_cases c0 : n R = 0
      · have e1 : cntN n (R + 1) = cntN n R := by rw [cntN, if_pos c0]
        have e2 : cntN (lessC n r) (R + 1) = cntN (lessC n r) R := by rw [cntN, if_pos (by rw [h1]; exact c0)]
        omega
      · have e1 : cntN n (R + 1) = cntN n R + 1 := by rw [cntN, if_neg c0]
        have e2 : cntN (lessC n r) (R + 1) = cntN (lessC n r) R + 1 := by rw [cntN, if_neg (by rw [h1]; exact c0)]
        omega
theorem cntN_allC {n : Nat → Nat} : ∀ {k : Nat}, (∀ i, i < k → n i ≠ 0) → cntN n k = k
  | 0, _ => rfl
  | k + 1, h => by rw [cntN, if_neg (h k (by omega)), cntN_allC (fun i hi => h i (by omega))]
/-- lists of N bytes, some of which are struck out: what DecodeColumn answers -/
theorem dc_some {D c N : Nat} {n : Nat → Nat} (hs : Shp3 (D : Int) (c : Int)) (hN : N ≤ 4000) (hN1 : 1 ≤ N) (hn : ∀ i, i < D + c → n i = 0 ∨ n i = N) (hc : D ≤ cntN n (D + c)) : DcAns (D : Int) (c : Int) (D + c) n 0 ∧ n (nthN n (D + c) 0) = N := by
  have hD1 := hs.1
  have each : ∀ t, t < cntN n (D + c) → n (nthN n (D + c) t) = N := fun t ht => by
    have q := nthN_spec (n := n) (R := D + c) (k := t) ht
    rcases hn _ q.1 with h | h
    · exact absurd h q.2.1
    · exact h
  have h0 := each 0 (by omega)
  refine ⟨.inr (.inr (.inr (.inr (.inr ⟨rfl, hs, by omega, fun t ht => ?_, fun h => ?_, by omega⟩)))), h0⟩
  · show n (nthN n (D + c) t) = n (nthN n (D + c) 0)
    rw [each t ht, h0]
  · have := h.2
    rw [h0] at this
    omega
end Go.Proofs.Ytoadjpacchhleaj

namespace Go.Proofs.Ytoadjpacchhleaj
open Go.RowKit F256
set_option linter.unusedVariables false
set_option linter.unusedSimpArgs false

theorem colW_share {D : Nat} {hv : Nat → Nat} (h1 : 1 ≤ D) (h2 : D ≤ 4) (hlt : ∀ j, j < D → hv j < D + 2) (hr : ∀ j, j + 1 < D → hv j < hv (j + 1)) (p i : Nat) : (if i < D then colW D hv p i else 0) = shareN D hv p i := by
  unfold shareN
  by_cases c : i < D
  · rw [if_pos c, if_pos c]
    show mixN (dW D hv) (genN D p 8) D i = _
    rw [mixN_dotC]
    exact weights_way h1 h2 hlt hr i c
  · rw [if_neg c, if_neg c]

set_option maxHeartbeats 8000000 in
theorem implShare_any (g c want : Int) (v : Value) (m : Nat) (h : Nat → Int) (l1 h1 : Nat) (w : World) (o : OwnI w l1 h1 v m h) (hh : h1 ≤ w.heap.size) (hm9 : m ≤ 1000000000) :
    Calls Try.prog 9 #[.int .i64 g, .int .i64 c, v, .int .i64 want] w fun ee w' => ∃ x v', ee = .returned (bytesR x v') ∧ ShAns g c m h want x ∧ Own w' w.heap.size w'.heap.size v' (if x = 0 then m else 0) (shareN g.toNat (fun k => (h k).toNat) want.toNat) ∧ Below w.heap.size w w' := by
  have HO : Hid (OwnI w l1 h1 v m h) := o
  obtain ⟨ao, cap, rfl⟩ := o.slice
  clear o
  go_enter Try.func9, Try.ntmps9
  go_wp2_with fail
  refine (columnInBounds_any g c _).mono ?_
  rintro e w1 ⟨b1, rfl, hb1, b1'⟩
  have HS : Hid (b1 = true ↔ Shp3 g c) := hb1
  have B1 : Below w.heap.size w w1 := bnew b1'
  have X1 : Box w1 w.heap.size #[.int .i64 0, .slice none 0 0] 25 := (box_new w _ _).below b1' (by simp)
  have z1 : w.heap.size < w1.heap.size := X1.lt
  obtain ⟨x0, x1, y0, y1⟩ := res_cells X1
  clear hb1 b1'
  cases b1 with
  | false =>
    have HNO : Hid (¬ Shp3 g c) := fun h => by have := HS.out.mpr h; cases this
    clear HS
    go_wp2
    exact bodyPost_ret (v := bytesR 3 (.slice none 0 0)) (by simp [results, Try.results9, go_sem, bytesR, x0, x1]) rfl ⟨3, _, rfl, .inl ⟨rfl, HNO.out⟩, own_nil _ _ _ _, (B1.setCell (Nat.le_refl _) _).setCell (Nat.le_refl _) _⟩
  | true =>
    have hsh := HS.out.mp rfl
    have HSH : Hid (Shp3 g c) := hsh
    obtain ⟨q1, q2, q3, q4⟩ := hsh
    obtain ⟨D, rfl⟩ : ∃ D : Nat, g = D := ⟨g.toNat, by omega⟩
    obtain ⟨S, rfl⟩ : ∃ S : Nat, c = S := ⟨c.toNat, by omega⟩
    have CR := risesWithin_any (.slice ao m cap) m h h1 ((D : Int) + (S : Int)) (by omega) w1 (HO.out.below B1 hh).rd
    clear HS x0 x1 y0 y1
    go_wp2_with fail
    refine CR.mono ?_
    rintro e w2 ⟨b2, rfl, hb2, b2'⟩
    have HRI : Hid (b2 = true ↔ RiseP m h ((D : Int) + (S : Int) - 1)) := hb2
    have B2 : Below w.heap.size w w2 := B1.trans (b2'.mono B1.size)
    have X2 : Box w2 w.heap.size #[.int .i64 0, .slice none 0 0] 25 := X1.below b2' z1
    have z2 : w.heap.size < w2.heap.size := X2.lt
    obtain ⟨x0, x1, y0, y1⟩ := res_cells X2
    clear hb2 b2' X1 B1 z1 CR
    cases b2 with
    | false =>
      have HNO : Hid (¬ RiseP m h ((D : Int) + (S : Int) - 1)) := fun hh => by have := HRI.out.mpr hh; cases this
      clear HRI
      go_wp2
      exact bodyPost_ret (v := bytesR 1 (.slice none 0 0)) (by simp [results, Try.results9, go_sem, bytesR, x0, x1]) rfl ⟨1, _, rfl, .inr (.inl ⟨rfl, HSH.out, HNO.out⟩), own_nil _ _ _ _, (B2.setCell (Nat.le_refl _) _).setCell (Nat.le_refl _) _⟩
    | true =>
      have HRP : Hid (RiseP m h ((D : Int) + (S : Int) - 1)) := HRI.out.mp rfl
      clear HRI
      by_cases hw0 : want < 0
      · have HNW : Hid (¬ (0 ≤ want ∧ want ≤ (D : Int) + (S : Int) - 1)) := fun h => by omega
        go_wp2
        exact bodyPost_ret (v := bytesR 3 (.slice none 0 0)) (by simp [results, Try.results9, go_sem, bytesR, x0, x1]) rfl ⟨3, _, rfl, .inr (.inr (.inl ⟨rfl, HSH.out, HRP.out, HNW.out⟩)), own_nil _ _ _ _, (B2.setCell (Nat.le_refl _) _).setCell (Nat.le_refl _) _⟩
      · have tw0 : decide (want < 0) = false := by simp; omega
        by_cases hw1 : (D : Int) + (S : Int) ≤ want
        · have HNW : Hid (¬ (0 ≤ want ∧ want ≤ (D : Int) + (S : Int) - 1)) := fun h => by omega
          clear hw0
          go_wp2
          exact bodyPost_ret (v := bytesR 3 (.slice none 0 0)) (by simp [results, Try.results9, go_sem, bytesR, x0, x1]) rfl ⟨3, _, rfl, .inr (.inr (.inl ⟨rfl, HSH.out, HRP.out, HNW.out⟩)), own_nil _ _ _ _, (B2.setCell (Nat.le_refl _) _).setCell (Nat.le_refl _) _⟩
        · obtain ⟨W, rfl⟩ : ∃ W : Nat, want = W := ⟨want.toNat, by omega⟩
          have tw1 : decide ((D : Int) + (S : Int) ≤ (W : Int)) = false := by simp; omega
          have HW : Hid (0 ≤ (W : Int) ∧ (W : Int) ≤ (D : Int) + (S : Int) - 1) := ⟨by omega, by omega⟩
          have hWDS : W < D + S := by omega
          have hWi : (W : Int) < (D : Int) + (S : Int) := by omega
          have CH := contains_any (.slice ao m cap) m h h1 (W : Int) w2 (HO.out.below B2 hh).rd
          clear hw0 hw1 x0 x1 y0 y1
          go_wp2_with fail
          refine CH.mono ?_
          rintro e w3 ⟨b3, rfl, hb3, b3'⟩
          have HHA : Hid (b3 = true ↔ HasP m h (W : Int)) := hb3
          have B3 : Below w.heap.size w w3 := B2.trans (b3'.mono B2.size)
          have X3 : Box w3 w.heap.size #[.int .i64 0, .slice none 0 0] 25 := X2.below b3' z2
          have z3 : w.heap.size < w3.heap.size := X3.lt
          obtain ⟨x0, x1, y0, y1⟩ := res_cells X3
          clear hb3 b3' X2 B2 z2 CH
          cases b3 with
          | true =>
            have HA : Hid (HasP m h (W : Int)) := HHA.out.mp rfl
            clear HHA
            go_wp2
            exact bodyPost_ret (v := bytesR 7 (.slice none 0 0)) (by simp [results, Try.results9, go_sem, bytesR, x0, x1]) rfl ⟨7, _, rfl, .inr (.inr (.inr (.inl ⟨rfl, HSH.out, HRP.out, HW.out, HA.out⟩))), own_nil _ _ _ _, (B3.setCell (Nat.le_refl _) _).setCell (Nat.le_refl _) _⟩
          | false =>
            have HNA : Hid (¬ HasP m h (W : Int)) := fun h => by have := HHA.out.mpr h; cases this
            clear HHA
            by_cases hmD : m < D
            · have hmi : (m : Int) < (D : Int) := by omega
              go_wp2
              exact bodyPost_ret (v := bytesR 10 (.slice none 0 0)) (by simp [results, Try.results9, go_sem, bytesR, x0, x1]) rfl ⟨10, _, rfl, .inr (.inr (.inr (.inr (.inl ⟨rfl, HSH.out, HRP.out, HW.out, HNA.out, hmi⟩)))), own_nil _ _ _ _, (B3.setCell (Nat.le_refl _) _).setCell (Nat.le_refl _) _⟩
            · have tm : decide ((m : Int) < (D : Int)) = false := by simp; omega
              have tmn : decide (m < D) = false := by simp; omega
              have HGM : Hid ((D : Int) ≤ (m : Int)) := by show (D : Int) ≤ (m : Int); omega
              obtain ⟨gh, caph, hgh, g1, g2, g3, g4⟩ := (HO.out.below B3 hh).form (by omega)
              simp only [Value.slice.injEq, true_and] at hgh
              obtain ⟨rfl, rfl⟩ := hgh
              obtain ⟨n1, n2, n3⟩ := rise_nat' HRP.out (show D ≤ m by omega)
              have HRN : Hid (∀ w5, Below w3.heap.size w3 w5 → RdI w5 w3.heap.size (.slice (some ⟨gh, 0, none⟩) D cap) D (fun i => (((h i).toNat : Nat) : Int))) := fun w5 b5 => by
                obtain ⟨ao', cap', hv', hm', hc'⟩ := (HO.out.below B3 hh).rd
                obtain ⟨b, off, h1', h2', h3'⟩ := hc' (by omega)
                simp only [Value.slice.injEq, true_and] at hv'
                obtain ⟨rfl, rfl⟩ := hv'
                simp only [Option.some.injEq, Addr.mk.injEq, and_true] at h1'
                obtain ⟨rfl, rfl⟩ := h1'
                have hs3 := B3.size
                refine ⟨_, _, rfl, by unfold maxLen; omega, fun _ => ⟨gh, 0, rfl, by omega, fun i hi => ?_⟩⟩
                rw [b5.cell (p := ⟨gh, 0 + i, none⟩) (by show gh < w3.heap.size; omega), h3' i (by omega)]
                show some (Value.int .i64 (h i)) = some (Value.int .i64 (((h i).toNat : Nat) : Int))
                rw [← n1 i hi]
              have HBD : Hid (∀ k, k < D → (fun i => (h i).toNat) k < D + 2) := fun k hk => by have := n2 k hk; show (h k).toNat < D + 2; omega
              have HRS : Hid (∀ k, k + 1 < D → (fun i => (h i).toNat) k < (fun i => (h i).toNat) (k + 1)) := n3
              have hDc : (D : Int) ≤ (cap : Int) := by omega
              have hmm := @run_makeMap Try.prog
              have hD0 : D ≠ 0 := by omega
              clear n1 n2 n3 x0 x1 y0 y1 hmD
              go_wp2_with (at_make; refine wp_makeB _ rfl _ _ rfl _ _ m rfl rfl rfl rfl (by omega) ?_; intro w4 ho4 hb4 hz4)
              have hsA : (w4.alloc (.map #[] 0)).heap.size = w4.heap.size + 1 := by simp
              have BA : Below w3.heap.size w3 (w4.alloc (.map #[] 0)) := hb4.trans (((Below.refl _ _).alloc (Nat.le_refl _) _).mono hb4.size)
              have CW := weights_new w4.heap.size D S (.slice (some ⟨gh, 0, none⟩) D cap) (fun i => (h i).toNat) w3.heap.size (w4.alloc (.map #[] 0)) (mapAt_new w4) (HRN.out _ BA) (by omega) (by omega) (by omega) (by omega) HBD.out
              have HO4 : Hid (Own (w4.alloc (.map #[] 0)) w3.heap.size w4.heap.size (.slice (some ⟨w3.heap.size, 0, none⟩) m m) m (fun _ => 0)) := ho4.alloc _
              have HBA : Hid (Below w3.heap.size w3 (w4.alloc (.map #[] 0))) := BA
              have s3 := B3.size
              have s4 := hb4.size
              clear ho4 hb4 hmm BA
              refine CW.mono ?_
              rintro e w5 ⟨v5, rfl, ⟨gW, cW, eW, hW⟩, m5, ch5⟩
              have hval := hW.val
              subst hval
              have c1 : w5.cell? ⟨gW, W, none⟩ = some (eW W) := hW.cell W hWDS
              have rk : Rd w5 w5.heap.size (eW W) D (colW D (fun i => (h i).toNat) W) := (hW.each W hWDS).rd
              obtain ⟨x, hx⟩ : ∃ x, x = eW W := ⟨_, rfl⟩
              rw [← hx] at c1 rk
              have HRK : Hid (Rd w5 w5.heap.size x D (colW D (fun i => (h i).toNat) W)) := rk
              obtain ⟨aok, capk, hsx, _, _⟩ := rk
              subst hsx
              have O5 : Own w5 w3.heap.size w4.heap.size (.slice (some ⟨w3.heap.size, 0, none⟩) m m) m (fun _ => 0) := HO4.out.chg ch5 (.inl (Nat.le_refl _))
              have HF5 : Hid (w5.heap[w3.heap.size]? = some (.cells (cellsOf m fun _ => 0).toArray 5 (0, 0))) := O5.full
              have HB5 : Hid (Below w3.heap.size w3 w5) := HBA.out.trans (ch5.below s4 (by rw [hsA]; omega))
              have HL1 : Hid ((cellsOf D (colW D (fun i => (h i).toNat) W)).length = Nat.min D m) := by
                show (cellsOf D (colW D (fun i => (h i).toNat) W)).length = Nat.min D m
                rw [cellsOf_length]
                exact (Nat.min_eq_left (by have := HGM.out; omega)).symm
              have HL2 : Hid (0 + (cellsOf D (colW D (fun i => (h i).toNat) W)).length ≤ (cellsOf m fun _ => 0).length) := by
                show 0 + (cellsOf D (colW D (fun i => (h i).toNat) W)).length ≤ (cellsOf m fun _ => 0).length
                rw [cellsOf_length, cellsOf_length]
                have := HGM.out
                omega
              have HSP : Hid (splice (cellsOf m fun _ => 0) 0 (cellsOf D (colW D (fun i => (h i).toNat) W)) = cellsOf m (shareN D (fun i => (h i).toNat) W)) := by
                refine splice_cells m 0 D _ _ _ (by have := HGM.out; omega) (fun i hi => ?_)
                rw [← colW_share (by omega) (by omega) HBD.out HRS.out W i]
                by_cases c : i < D
                · rw [if_pos c, if_pos ⟨by omega, by omega⟩, Nat.sub_zero]
                · rw [if_neg c, if_neg (by omega)]
              clear CW hW m5 ch5 hx O5 HO4 HBA
              go_wp2_with (refine wpList_copy_splice rfl (.tmp 44) (.tmp 54) 23 23 rfl 5 Try.underlying23 size_u8 (some ⟨w3.heap.size, 0, none⟩) aok m m D capk rfl rfl w3.heap.size 0 (cellsOf m fun _ => 0) 5 HF5.out (cellsOf D (colW D (fun i => (h i).toNat) W)) HL1.out (fun hp => ⟨rfl, copy_src HRK.out hp⟩) HL2.out (cellsOf_one D _) w3.heap.size w3 HB5.out (Nat.le_refl _) ?_; intro w6 hF6 hb6; have X6 : Box w6 w.heap.size #[.int .i64 0, .slice none 0 0] 25 := X3.below hb6 z3; obtain ⟨x0, x1, y0, y1⟩ := res_cells X6)
              have B6 : Below w.heap.size w w6 := B3.trans (hb6.mono s3)
              have F6 := hF6.out
              rw [HSP.out] at F6
              have O6 : Own w6 w3.heap.size w6.heap.size (.slice (some ⟨w3.heap.size, 0, none⟩) m m) m (shareN D (fun i => (h i).toNat) W) := own_of_full F6 (Nat.le_refl _) (by unfold maxLen; omega)
              refine bodyPost_ret (v := bytesR 0 (.slice (some ⟨w3.heap.size, 0, none⟩) m m)) (by simp [results, Try.results9, go_sem, bytesR, x0, x1]) rfl ⟨0, _, rfl, .inr (.inr (.inr (.inr (.inr ⟨rfl, HSH.out, HRP.out, HW.out, HNA.out, HGM.out⟩)))), ?_, (B6.setCell (Nat.le_refl _) _).setCell (Nat.le_refl _) _⟩
              have o1 := out_store w6 w.heap.size (w.heap.size + 1) w.heap.size 0 (.int .i64 0) (Nat.le_refl _) (by omega)
              have o2 := out_store (w6.setCell ⟨w.heap.size, 0, none⟩ (.int .i64 0)) w.heap.size (w.heap.size + 1) w.heap.size 1 (.slice (some ⟨w3.heap.size, 0, none⟩) m m) (Nat.le_refl _) (by omega)
              simp only [if_pos]
              rw [Int.toNat_natCast, Int.toNat_natCast]
              exact (O6.out (o1.trans o2) (.inr (by omega))).weaken (by omega) (by rw [(o1.trans o2).size]; exact Nat.le_refl _)
end Go.Proofs.Ytoadjpacchhleaj

namespace Go.Proofs.Ytoadjpacchhleaj
open Go.ChangeShapes Go.WideShapes Go.ChangeAt Go.RowKit F256
set_option linter.unusedVariables false

theorem rise_few {m : Nat} {h : Nat → Int} {most : Int} (hr : RiseP m h most) : ∀ k, k < m → (k : Int) ≤ h k
  | 0, hk => (hr 0 hk).1
  | k + 1, hk => by
    have h1 := rise_few hr k (by omega)
    have h2 := (hr (k + 1) hk).2.2 (by omega)
    rw [show k + 1 - 1 = k by omega] at h2
    omega
theorem fnExactShareOf_both (a0 : Int) (h0 : -9223372036854775808 ≤ a0 ∧ a0 ≤ 9223372036854775807) (a1 : Int) (h1 : -9223372036854775808 ≤ a1 ∧ a1 ≤ 9223372036854775807) (n2 : Nat) (f2 : Nat → Int) (k2 : ∀ i, -9223372036854775808 ≤ f2 i ∧ f2 i ≤ 9223372036854775807) (t2 : ¬ 1048576 < n2) (a3 : Int) (h3 : -9223372036854775808 ≤ a3 ∧ a3 ≤ 9223372036854775807) : ∃ (c : Int) (m : Nat) (g : Nat → Nat), m ≤ 4000 ∧
    (∀ (v2 : Value) (l2 e2 : Nat) (w : World), OwnI w l2 e2 v2 n2 f2 → e2 ≤ w.heap.size →
      Calls Try.prog 7 #[.int .i64 a0, .int .i64 a1, v2, .int .i64 a3] w fun e w' => ∃ v', e = .returned (bytesR c v') ∧ Own w' w.heap.size w'.heap.size v' m g ∧ Below w.heap.size w w') ∧
    (∀ (v2 : Value) (l2 e2 : Nat) (w : World), OwnI w l2 e2 v2 n2 f2 → e2 ≤ w.heap.size →
      Calls Try.prog 9 #[.int .i64 a0, .int .i64 a1, v2, .int .i64 a3] w fun e w' => ∃ v', e = .returned (bytesR c v') ∧ Own w' w.heap.size w'.heap.size v' m g ∧ Below w.heap.size w w') := by
  obtain ⟨c, hc⟩ := sh_ans a0 a1 n2 f2 a3
  refine ⟨c, if c = 0 then n2 else 0, shareN a0.toNat (fun k => (f2 k).toNat) a3.toNat, ?_, fun v2 l2 e2 w o2 b2 => ?_, fun v2 l2 e2 w o2 b2 => ?_⟩
  · split
    · rename_i h
      rcases hc with ⟨h2, _⟩ | ⟨h2, _⟩ | ⟨h2, _⟩ | ⟨h2, _⟩ | ⟨h2, _⟩ | ⟨_, hs, hr, _⟩
      · omega
      · omega
      · omega
      · omega
      · omega
      · by_cases c0 : n2 = 0
        · omega
        · have h3 := rise_few hr (n2 - 1) (by omega)
          have h4 := (hr (n2 - 1) (by omega)).2.1
          have h5 := hs.2.1
          have h6 := hs.2.2.2
          omega
    · omega
  · refine (specShare_any a0 a1 a3 v2 n2 f2 l2 e2 w o2 b2 (by omega)).mono fun e w' ⟨x, v', he, ha, ho, hb⟩ => ?_
    obtain rfl := ha.one hc
    exact ⟨v', he, ho, hb⟩
  · refine (implShare_any a0 a1 a3 v2 n2 f2 l2 e2 w o2 b2 (by omega)).mono fun e w' ⟨x, v', he, ha, ho, hb⟩ => ?_
    obtain rfl := ha.one hc
    exact ⟨v', he, ho, hb⟩

set_option maxHeartbeats 4000000 in
theorem fnExactShareOf_walk (a0 : Int) (h0 : -9223372036854775808 ≤ a0 ∧ a0 ≤ 9223372036854775807) (a1 : Int) (h1 : -9223372036854775808 ≤ a1 ∧ a1 ≤ 9223372036854775807) (a2 : Option Addr) (n2 c2 : Nat) (z2 : List Int) (a3 : Int) (h3 : -9223372036854775808 ≤ a3 ∧ a3 ≤ 9223372036854775807) (w : World) (q2 : IsRowI w a2 n2 c2 z2) :
    Calls Try.prog 3 #[.int .i64 a0, .int .i64 a1, .slice a2 n2 c2, .int .i64 a3] w fun e w' => e = .returned (.bool true) ∧ Below w.heap.size w w' := by
  obtain ⟨f2, k2, r2⟩ := q2.rd
  have l2 : n2 ≤ 9223372036854775807 := by obtain ⟨_, _, _, h, _⟩ := r2; unfold maxLen at h; omega
  clear q2
  by_cases t2 : 1048576 < n2
  · go_enter Try.func3, Try.ntmps3
    go_wp2
    go_ret
    exact ⟨rfl, Below.refl _ _⟩
  obtain ⟨c, m, g, hm, hs, hi⟩ := fnExactShareOf_both a0 h0 a1 h1 n2 f2 k2 t2 a3 h3
  clear k2
  have bel := Below.refl w.heap.size w
  go_enter Try.func3, Try.ntmps3
  go_wp2_with fail
  refine (toInt64S_any _ n2 f2 w.heap.size _ r2 (by omega) (by omega)).mono ?_
  rintro e w1 ⟨vt2, rfl, ot2, b1⟩
  have sw1 : w.heap.size ≤ w1.heap.size := b1.size
  replace r2 := r2.below b1 (by omega)
  replace bel := bthen bel b1
  go_wp2_with fail
  refine (hs vt2 _ _ _ ot2 (by omega)).mono ?_
  rintro e w2 ⟨vW, rfl, oW, b2⟩
  obtain ⟨aoW, capW, rfl⟩ := oW.slice
  unfold bytesR
  have sw2 : w1.heap.size ≤ w2.heap.size := b2.size
  replace r2 := r2.below b2 (by omega)
  replace ot2 := ot2.below b2 (by omega)
  replace bel := bthen bel b2
  clear ot2
  go_wp2_with fail
  have rx := r2.below (Below.alloc (Below.refl w2.heap.size w2) (Nat.le_refl _) (.cells #[.int .i64 c, .slice aoW m capW] 25)) (by omega)
  refine (toInt64S_any _ n2 f2 w.heap.size _ rx (by simp <;> omega) (by omega)).mono ?_
  rintro e w3 ⟨vx2, rfl, ox2, b3⟩
  clear rx
  replace ox2 := ox2.weaken (lo' := w2.heap.size + 1) (by simp) (Nat.le_refl _)
  have sw3 : w2.heap.size ≤ w3.heap.size := (bnew b3).size
  have boxW := (box_new w2 _ _).below b3 (by simp)
  have eboxW : w2.heap.size < w3.heap.size := bsize b3
  replace r2 := r2.below (bnew b3) (by omega)
  replace oW := oW.below (bnew b3) (by omega)
  replace bel := bthen bel (bnew b3)
  go_wp2_with fail
  refine (hi vx2 _ _ _ ox2 (by omega)).mono ?_
  rintro e w4 ⟨vG, rfl, oG, b4⟩
  obtain ⟨aoG, capG, rfl⟩ := oG.slice
  unfold bytesR
  have sw4 : w3.heap.size ≤ w4.heap.size := b4.size
  replace r2 := r2.below b4 (by omega)
  replace oW := oW.below b4 (by omega)
  replace boxW := boxW.below b4 (by omega)
  replace ox2 := ox2.below b4 (by omega)
  replace bel := bthen bel b4
  obtain ⟨d0, d1, -, -⟩ := res_cells boxW
  have dz : w2.heap.size < w4.heap.size := by omega
  go_wp2_with fail
  have rx := oG.alloc (.cells #[.int .i64 c, .slice aoG m capG] 25)
  have ry := oW.alloc (.cells #[.int .i64 c, .slice aoG m capG] 25)
  refine (eqBytesR_same c (.slice aoG m capG) (.slice aoW m capW) m g _ _ _ rx.rd ry.rd (by simp <;> omega) (by simp <;> omega)).mono ?_
  clear rx ry d0 d1 dz
  rintro e w5 ⟨rfl, b5⟩
  have sw5 : w4.heap.size ≤ w5.heap.size := (bnew b5).size
  have boxG := (box_new w4 _ _).below b5 (by simp)
  have eboxG : w4.heap.size < w5.heap.size := bsize b5
  replace r2 := r2.below (bnew b5) (by omega)
  replace oW := oW.below (bnew b5) (by omega)
  replace boxW := boxW.below (bnew b5) (by omega)
  replace ox2 := ox2.below (bnew b5) (by omega)
  replace oG := oG.below (bnew b5) (by omega)
  replace bel := bthen bel (bnew b5)
  go_wp2_with fail
  refine (toInt64S_any _ n2 f2 w.heap.size _ r2 (by omega) (by omega)).mono ?_
  rintro e w6 ⟨vy2, rfl, oy2, b6⟩
  have sw6 : w5.heap.size ≤ w6.heap.size := b6.size
  replace r2 := r2.below b6 (by omega)
  replace oW := oW.below b6 (by omega)
  replace boxW := boxW.below b6 (by omega)
  replace ox2 := ox2.below b6 (by omega)
  replace oG := oG.below b6 (by omega)
  replace boxG := boxG.below b6 (by omega)
  replace bel := bthen bel b6
  go_wp2_with fail
  refine (eqInt64S_same vx2 vy2 n2 f2 _ _ _ ox2.rd oy2.rd).mono ?_
  rintro e w7 ⟨rfl, b7⟩
  clear oy2
  have sw7 : w6.heap.size ≤ w7.heap.size := b7.size
  replace r2 := r2.below b7 (by omega)
  replace oW := oW.below b7 (by omega)
  replace boxW := boxW.below b7 (by omega)
  replace ox2 := ox2.below b7 (by omega)
  replace oG := oG.below b7 (by omega)
  replace boxG := boxG.below b7 (by omega)
  replace bel := bthen bel b7
  go_wp2_with fail
  refine (markInt64S_any vx2 n2 f2 _ _ 1 (by omega) (by omega) _ ox2).mono ?_
  rintro e w8 ⟨rfl, om2, out2⟩
  have ch := out2.chg
  clear out2
  clear ox2 om2
  have sw8 : w7.heap.size ≤ w8.heap.size := ch.size
  replace r2 := r2.chg ch (by omega) (by omega)
  replace oW := oW.chg ch (by omega)
  replace boxW := boxW.chg ch (by omega)
  replace oG := oG.chg ch (by omega)
  replace boxG := boxG.chg ch (by omega)
  replace bel := bel.trans (ch.below (by omega) (by omega))
  clear ch
  skip
  obtain ⟨d0, d1, -, -⟩ := res_cells boxW
  obtain ⟨d2, d3, -, -⟩ := res_cells boxG
  go_wp2_with fail
  refine (eqBytesR_same c (.slice aoG m capG) (.slice aoW m capW) m g _ _ _ oG.rd oW.rd (by omega) (by omega)).mono ?_
  clear d0 d1 d2 d3
  rintro e w9 ⟨rfl, b9⟩
  have sw9 : w8.heap.size ≤ w9.heap.size := b9.size
  replace r2 := r2.below b9 (by omega)
  replace oW := oW.below b9 (by omega)
  replace boxW := boxW.below b9 (by omega)
  replace oG := oG.below b9 (by omega)
  replace boxG := boxG.below b9 (by omega)
  replace bel := bthen bel b9
  obtain ⟨d0, d1, -, -⟩ := res_cells boxG
  go_wp2_with fail
  refine (markBytesR_any c (.slice aoG m capG) m g _ _ 1 (by omega) (by omega) _ oG).mono ?_
  rintro e w10 ⟨rfl, oM, ch⟩
  clear d0 d1 oG
  have sw10 : w9.heap.size ≤ w10.heap.size := ch.size
  replace r2 := r2.chg ch (by omega) (by omega)
  replace oW := oW.chg ch (by omega)
  replace boxW := boxW.chg ch (by omega)
  replace boxG := boxG.chg ch (by omega)
  replace bel := bel.trans (ch.below (by omega) (by omega))
  clear ch
  obtain ⟨d0, d1, -, -⟩ := res_cells boxG
  go_wp2_with fail
  refine (heldBytesR_any c (.slice aoG m capG) m _ 1 (by omega) (by omega) _ oM.rd (by omega)).mono ?_
  rintro e w11 ⟨rfl, b11⟩
  clear d0 d1
  have sw11 : w10.heap.size ≤ w11.heap.size := b11.size
  replace r2 := r2.below b11 (by omega)
  replace oW := oW.below b11 (by omega)
  replace boxW := boxW.below b11 (by omega)
  replace boxG := boxG.below b11 (by omega)
  replace oM := oM.below b11 (by omega)
  replace bel := bthen bel b11
  go_wp2_with fail
  refine (toInt64S_any _ n2 f2 w.heap.size _ r2 (by omega) (by omega)).mono ?_
  rintro e w12 ⟨vu2, rfl, ou2, b12⟩
  have sw12 : w11.heap.size ≤ w12.heap.size := b12.size
  replace r2 := r2.below b12 (by omega)
  replace oW := oW.below b12 (by omega)
  replace boxW := boxW.below b12 (by omega)
  replace boxG := boxG.below b12 (by omega)
  replace oM := oM.below b12 (by omega)
  replace bel := bthen bel b12
  go_wp2_with fail
  refine (hi vu2 _ _ _ ou2 (by omega)).mono ?_
  rintro e w13 ⟨vH, rfl, oH, b13⟩
  obtain ⟨aoH, capH, rfl⟩ := oH.slice
  unfold bytesR
  have sw13 : w12.heap.size ≤ w13.heap.size := b13.size
  replace r2 := r2.below b13 (by omega)
  replace oW := oW.below b13 (by omega)
  replace boxW := boxW.below b13 (by omega)
  replace boxG := boxG.below b13 (by omega)
  replace oM := oM.below b13 (by omega)
  replace ou2 := ou2.below b13 (by omega)
  replace bel := bthen bel b13
  clear ou2
  obtain ⟨d0, d1, -, -⟩ := res_cells boxW
  have dz : w2.heap.size < w13.heap.size := by omega
  go_wp2_with fail
  have rx := oH.alloc (.cells #[.int .i64 c, .slice aoH m capH] 25)
  have ry := oW.alloc (.cells #[.int .i64 c, .slice aoH m capH] 25)
  refine (eqBytesR_same c (.slice aoH m capH) (.slice aoW m capW) m g _ _ _ rx.rd ry.rd (by simp <;> omega) (by simp <;> omega)).mono ?_
  clear rx ry d0 d1 dz
  rintro e w14 ⟨rfl, b14⟩
  have sw14 : w13.heap.size ≤ w14.heap.size := (bnew b14).size
  have boxH := (box_new w13 _ _).below b14 (by simp)
  have eboxH : w13.heap.size < w14.heap.size := bsize b14
  replace r2 := r2.below (bnew b14) (by omega)
  replace oW := oW.below (bnew b14) (by omega)
  replace boxW := boxW.below (bnew b14) (by omega)
  replace boxG := boxG.below (bnew b14) (by omega)
  replace oM := oM.below (bnew b14) (by omega)
  replace oH := oH.below (bnew b14) (by omega)
  replace bel := bthen bel (bnew b14)
  obtain ⟨d0, d1, -, -⟩ := res_cells boxG
  go_wp2_with fail
  refine (heldBytesR_any c (.slice aoG m capG) m _ 1 (by omega) (by omega) _ oM.rd (by omega)).mono ?_
  rintro e w15 ⟨rfl, b15⟩
  clear d0 d1
  have sw15 : w14.heap.size ≤ w15.heap.size := b15.size
  replace r2 := r2.below b15 (by omega)
  replace oW := oW.below b15 (by omega)
  replace boxW := boxW.below b15 (by omega)
  replace boxG := boxG.below b15 (by omega)
  replace oM := oM.below b15 (by omega)
  replace oH := oH.below b15 (by omega)
  replace boxH := boxH.below b15 (by omega)
  replace bel := bthen bel b15
  go_wp2
  go_ret
  exact ⟨rfl, bel⟩

set_option maxRecDepth 100000 in
theorem fnExactShareOf_lifted (os : Os) (started : os.Started) (H : Type) (enc : TypeId × Value → H) :
    ReturnsInHanded {} Try.checked os 3 .any (Rows.fnExactShareOfSpec.pre6 enc Try.prog Try.f3 Rows.fnExactShareOfRow.domain false) (Rows.fnExactShareOfSpec.post enc Try.prog Try.f3 false true false false) := by
  refine returnsInHanded_of_change (C := Try.checked) frame_own started (by kernel_rfl) Try.func3
    (ChangeSpec.witness6 (enc := enc) (C := Try.checked) false ⟨#[], #[.int .i64 0, .int .i64 0, .slice none 0 0, .int .i64 0], []⟩ 8 (by kernel_rfl) (by kernel_rfl) (by kernel_rfl) (by kernel_rfl)) ?_
  intro W base args ds gs before hval0 hW hcnd _
  have hval : ∀ (j : Nat) t v, Try.f3.params[j]? = some t → args[j]? = some v → Value.okWide Try.prog W .any base t v := hval0
  have hW' := hW
  obtain ⟨p, q, hA0, hV, rfl, hfz, hnd⟩ := hW
  have hA : DataW.TrodAll enc Try.prog W 0 (fun _ => true) true Try.f3.params.toList args.toList ds p := hA0
  rw [Try.params3] at hA hval
  obtain ⟨v0, vs0, d0, ds0, p0, q0, hargs, rfl, rfl, h0, r0⟩ := trodAll_cons hA
  obtain ⟨v1, vs1, d1, ds1, p1, q1, rfl, rfl, rfl, h1, r1⟩ := trodAll_cons r0
  obtain ⟨v2, vs2, d2, ds2, p2, q2, rfl, rfl, rfl, h2, r2⟩ := trodAll_cons r1
  obtain ⟨v3, vs3, d3, ds3, p3, q3, rfl, rfl, rfl, h3, r3⟩ := trodAll_cons r2
  obtain ⟨rfl, rfl, rfl⟩ := trodAll_nil r3
  obtain rfl : args = #[v0, v1, v2, v3] := by cases args; simp_all
  obtain ⟨rfl, rfl⟩ := trodVars_none hV
  obtain ⟨a0, rfl, rfl, rfl, w0⟩ := open_int Try.underlying2 (hval 0 2 v0 rfl rfl) h0
  obtain ⟨a1, rfl, rfl, rfl, w1⟩ := open_int Try.underlying2 (hval 1 2 v1 rfl rfl) h1
  obtain ⟨a2, len2, cap2, rfl⟩ := okWide_slice Try.underlying22 (hval 2 22 v2 rfl rfl)
  have k2 := h2
  have lt2 : ∀ x ∈ p2, x.block < W.heap.size := by obtain ⟨m, hm⟩ := k2; exact DataW.trod_lt m _ _ _ hm
  obtain ⟨z2, w2⟩ : ∃ zs, IsRowI W a2 len2 cap2 zs := rowI_of_trod Try.underlying22 Try.underlying2 (by kernel_rfl) h2
  obtain ⟨a3, rfl, rfl, rfl, w3⟩ := open_int Try.underlying2 (hval 3 2 v3 rfl rfl) h3
  clear hA0 hval0
  refine (fnExactShareOf_walk a0 (bounds_i64 w0) a1 (bounds_i64 w1) a2 len2 cap2 z2 a3 (bounds_i64 w3) W w2).mono fun e W' ⟨he, bel⟩ => ?_
  subst he
  exact ⟨_, rfl, _, _, _, [], _, [], hW', trodAll_mk1 (shut_bool Try.underlying4 _), (trodAll_cons_mk (shut_int Try.underlying2 w0) (trodAll_cons_mk (shut_int Try.underlying2 w1) (trodAll_cons_mk (Below.trod frame_laid (by kernel_rfl) (of_decide_eq_true (by kernel_rfl)) k2 bel lt2) (trodAll_cons_mk (shut_int Try.underlying2 w3) trodAll_mk0)))), rfl, bel.frame _, fun h => by cases h⟩

theorem fnExactShareOf_proved : Rows.FnExactShareOfSaid :=
  OpenClaim.holds_of_wide 3 Try.f3 rfl rfl rfl rfl rfl rfl rfl ⟨rfl, rfl, rfl, rfl, rfl⟩ rfl rfl rfl rfl rfl (by kernel_rfl) Try.func3 (by kernel_rfl)
    (of_decide_eq_true (by kernel_rfl)) (by unfold Func.isWrapper; first | (rw [if_pos (by decide +kernel)]; kernel_rfl) | (rw [if_neg (by decide +kernel)]; exact ⟨rfl, rfl⟩))
    (fun os started H enc _ => fnExactShareOf_lifted os started H enc)
#print axioms fnExactShareOf_proved
end Go.Proofs.Ytoadjpacchhleaj
