/- The work that strikes records, under power and where it fails; withPower over it. -/
import Derived.Test.YthdknhjaohhfiaaGreatZPstrikaq
import Derived.Deep.DeepCutAuto
import Derived.Test.YthdknhjaohhfiaaGreatZPstrikao
import Derived.BigQuiet
import Derived.Deep.QuietTactic
namespace Go.Proofs.YthdknhjaohhfiaaGreat
open Go.RowKit F256
set_option linter.unusedVariables false
set_option linter.unusedSimpArgs false
set_option maxHeartbeats 8000000 in
set_option maxRecDepth 20000 in
theorem strike_ok (E : Nat) (v0 v1 v2 v3 v4 v5 v6 v7 v8 vp0 vl0 vq0 vp1 vl1 vq1 vp2 vl2 vq2 v9 v10 vb : _) (d : WorldD) (K : List Nat) (T : Nat) (kd sq : Int) (w : World) (hX : Box w E #[.int .i32 0, .int .u32 0, .int .u32 0, .int .i32 0, .int .u32 0, .int .i64 v0, .int .i64 v1, .int .i64 v2, .int .i64 v3, .int .i64 v4, .int .i64 v5, .int .i64 v6, .int .i64 v7, .int .i64 v8, .slice vp0 vl0 vq0, .slice vp1 vl1 vq1, .slice vp2 vl2 vq2, .int .i64 v9, .int .i64 v10, .bool vb] 142) (hO : EncO w E d [.int .i64 v0, .int .i64 v1, .int .i64 v2, .int .i64 v3, .int .i64 v4, .int .i64 v5, .int .i64 v6, .int .i64 v7, .int .i64 v8, .slice vp0 vl0 vq0, .slice vp1 vl1 vq1, .slice vp2 vl2 vq2, .int .i64 v9, .int .i64 v10, .bool vb] K) (hT : T < d.tapes.1) (hn : (d.tapes.2 T).recs.1 ≤ 1048576) (hpw : ¬ (v10 ≠ -1 ∧ v10 ≤ v9)) (hwr : -9223372036854775808 ≤ d.writes ∧ d.writes + 1 ≤ 9223372036854775807) :
    Calls Tryz.prog 110 #[.pointer (some ⟨E, 0, none⟩), .int .i64 (T : Int), .int .i64 kd, .int .i64 sq] w fun e w' => e = .returned (.tuple #[]) ∧ ∃ cs' K', Box w' E (([.int .i32 0, .int .u32 0, .int .u32 0, .int .i32 0, .int .u32 0] : List Value) ++ cs').toArray 142 ∧ EncO w' E { strikeW d T kd sq with writes := d.writes + 1 } cs' K' ∧ (∀ b, b ∈ K' → b ∈ K ∨ w.heap.size ≤ b) ∧ ChgL (E :: K) w w' := by
  have hmf : ∀ (fn : Fn) (first cap : Array Value) (w : World), (Instr.makeFunc fn first cap).run Tryz.prog w = .ok (.func fn first cap) w := fun _ _ _ _ => rfl
  have hE : E < w.heap.size := hX.lt
  have TB := three_newb w #[.int .i64 (T : Int)] #[.int .i64 kd] #[.int .i64 sq] 2 2 2
  have X1 := hX.below TB.bel hE
  go_enter Tryz.func110, Tryz.ntmps110
  go_upto_region 1 with fail
  obtain ⟨W, hW⟩ : ∃ x, x = (((w.alloc (.cells #[.int .i64 (T : Int)] 2)).alloc (.cells #[.int .i64 kd] 2)).alloc (.cells #[.int .i64 sq] 2)) := ⟨_, rfl⟩
  rw [← hW] at TB X1 ⊢
  have zW : w.heap.size ≤ W.heap.size := TB.bel.size
  clear hW hX
  have O1 : EncO W E d [.int .i64 v0, .int .i64 v1, .int .i64 v2, .int .i64 v3, .int .i64 v4, .int .i64 v5, .int .i64 v6, .int .i64 v7, .int .i64 v8, .slice vp0 vl0 vq0, .slice vp1 vl1 vq1, .slice vp2 vl2 vq2, .int .i64 v9, .int .i64 v10, .bool vb] K := ⟨Lay.own_kept _ hO.own (fun b hb => TB.bel.block b (layWorld.own_lt hO.own b hb)), hO.nd, hO.ne⟩
  have CR := rawWrite_strike E v0 v1 v2 v3 v4 v5 v6 v7 v8 vp0 vl0 vq0 vp1 vl1 vq1 vp2 vl2 vq2 v9 v10 vb d (strikeW d T kd sq) K w.heap.size (w.heap.size + 1) (w.heap.size + 1 + 1) W X1 O1 hpw hwr (fun W' hX' hO' hC' => strikeChange E d _ K _ _ _ T kd sq hT hn W' hX' hO' ((World.cell?_of_block (hC'.block (w.heap.size) TB.b1.lt (by simp; omega))).trans (TB.b1.cell 0)) ((World.cell?_of_block (hC'.block (w.heap.size + 1) TB.b2.lt (by simp; omega))).trans (TB.b2.cell 0)) ((World.cell?_of_block (hC'.block (w.heap.size + 1 + 1) TB.b3.lt (by simp; omega))).trans (TB.b3.cell 0)) ⟨by have := hC'.size; have := TB.b3.lt; omega, fun hb => by have := layWorld.own_lt hO.own _ hb; omega⟩ ⟨by have := hC'.size; have := TB.b3.lt; omega, fun hb => by have := layWorld.own_lt hO.own _ hb; omega⟩ ⟨by have := hC'.size; have := TB.b3.lt; omega, fun hb => by have := layWorld.own_lt hO.own _ hb; omega⟩)
  have HCR := CR
  clear CR hO hpw hwr O1 X1
  go_wp2_with (go_at_call 142; refine HCR.mono ?_; rintro e w5 ⟨rfl, cs', K', X5, O5, s5, C5⟩)
  go_end0
  exact ⟨rfl, cs', K', X5, O5, fun b hb => (s5 b hb).imp id (fun h => by omega), (ChgL.of_below TB.bel).trans C5⟩
set_option maxHeartbeats 8000000 in
set_option maxRecDepth 20000 in
theorem strike_fail (E : Nat) (v0 v1 v2 v3 v4 v5 v6 v7 v8 vp0 vl0 vq0 vp1 vl1 vq1 vp2 vl2 vq2 v9 v10 vb : _) (d : WorldD) (K : List Nat) (T : Nat) (kd sq : Int) (w : World) (hX : Box w E #[.int .i32 0, .int .u32 0, .int .u32 0, .int .i32 0, .int .u32 0, .int .i64 v0, .int .i64 v1, .int .i64 v2, .int .i64 v3, .int .i64 v4, .int .i64 v5, .int .i64 v6, .int .i64 v7, .int .i64 v8, .slice vp0 vl0 vq0, .slice vp1 vl1 vq1, .slice vp2 vl2 vq2, .int .i64 v9, .int .i64 v10, .bool vb] 142) (h1 : ∀ x, x ∈ ([.int .i64 v0, .int .i64 v1, .int .i64 v2, .int .i64 v3, .int .i64 v4, .int .i64 v5, .int .i64 v6, .int .i64 v7, .int .i64 v8, .slice vp0 vl0 vq0, .slice none 0 0, .slice vp2 vl2 vq2, .int .i64 v9, .int .i64 v10, .bool true] : List Value) → x.oneCell' = true) (hs : v10 ≠ -1) (hw : v10 ≤ v9) :
    Calls Tryz.prog 110 #[.pointer (some ⟨E, 0, none⟩), .int .i64 (T : Int), .int .i64 kd, .int .i64 sq] w fun e w' => e = .panicked [{ v := .iface 201 (.agg #[]), recovered := false }] ∧ Box w' E #[.int .i32 0, .int .u32 0, .int .u32 1, .int .i32 0, .int .u32 0, .int .i64 v0, .int .i64 v1, .int .i64 v2, .int .i64 v3, .int .i64 v4, .int .i64 v5, .int .i64 v6, .int .i64 v7, .int .i64 v8, .slice vp0 vl0 vq0, .slice none 0 0, .slice vp2 vl2 vq2, .int .i64 v9, .int .i64 v10, .bool true] 142 ∧ ChgL [E] w w' := by
  have hmf : ∀ (fn : Fn) (first cap : Array Value) (w : World), (Instr.makeFunc fn first cap).run Tryz.prog w = .ok (.func fn first cap) w := fun _ _ _ _ => rfl
  have hE : E < w.heap.size := hX.lt
  have TB := three_newb w #[.int .i64 (T : Int)] #[.int .i64 kd] #[.int .i64 sq] 2 2 2
  have X1 := hX.below TB.bel hE
  go_enter Tryz.func110, Tryz.ntmps110
  go_upto_region 1 with fail
  obtain ⟨W, hW⟩ : ∃ x, x = (((w.alloc (.cells #[.int .i64 (T : Int)] 2)).alloc (.cells #[.int .i64 kd] 2)).alloc (.cells #[.int .i64 sq] 2)) := ⟨_, rfl⟩
  rw [← hW] at TB X1 ⊢
  have zW : w.heap.size ≤ W.heap.size := TB.bel.size
  clear hW hX
  have CR := fun fv => rawWrite_fail E v0 v1 v2 v3 v4 v5 v6 v7 v8 vp0 vl0 vq0 vp1 vl1 vq1 vp2 vl2 vq2 v9 v10 vb fv W X1 h1 hs hw
  clear h1 hs hw X1
  go_wp2_with (go_at_call 142; refine (CR _).mono ?_; rintro e w5 ⟨rfl, X5, C5⟩)
  exact ⟨rfl, rfl, X5, (ChgL.of_below TB.bel).trans C5⟩
end Go.Proofs.YthdknhjaohhfiaaGreat

namespace Go.Proofs.YthdknhjaohhfiaaGreat
open Go.RowKit F256
set_option linter.unusedVariables false
set_option linter.unusedSimpArgs false
end Go.Proofs.YthdknhjaohhfiaaGreat
