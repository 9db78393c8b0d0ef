/- Walks of the lock's and the once's own text, one goroutine: Lock where it is free; Unlock and the atomic store, deferred. -/
import Derived.Test.YtfafbojaeedhfaaGreatZgO
import Derived.Defers
import Derived.Recover
import Derived.Laws.LoneSync
import Derived.Laws.Pointers
import Derived.RegionCalls
import Derived.Test.YtfafbojaeedhfaaGreatZhM
import Derived.Test.YtfafbojaeedhfaaGreatZgI
import Derived.Test.YtfafbojaeedhfaaGreatZgK
import Derived.Deep.DeepCutAuto
import Derived.BigQuiet
import Derived.Deep.QuietTactic
namespace Go.Proofs.YtfafbojaeedhfaaGreat
open Go.RowKit
set_option linter.unusedVariables false
set_option linter.unusedSimpArgs false
theorem race_disable (w : World) : (callFunc 235 #[]).run Tryz.prog w = .ok (.value (.tuple #[])) w := run_call_mark0 Tryz.func235 (by kernel_rfl) (by kernel_rfl) (by kernel_rfl) .disable (by kernel_rfl) w
theorem race_enable (w : World) : (callFunc 237 #[]).run Tryz.prog w = .ok (.value (.tuple #[])) w := run_call_mark0 Tryz.func237 (by kernel_rfl) (by kernel_rfl) (by kernel_rfl) .enable (by kernel_rfl) w
theorem race_acquire (a : Addr) (w : World) : (callFunc 238 #[.pointer (some a)]).run Tryz.prog w = .ok (.value (.tuple #[])) w := run_call_marked Tryz.func238 (by kernel_rfl) (by kernel_rfl) (by kernel_rfl) .acquire (by kernel_rfl) a w
theorem race_release (a : Addr) (w : World) : (callFunc 240 #[.pointer (some a)]).run Tryz.prog w = .ok (.value (.tuple #[])) w := run_call_marked Tryz.func240 (by kernel_rfl) (by kernel_rfl) (by kernel_rfl) .releaseMerge (by kernel_rfl) a w
set_option maxRecDepth 100000 in
set_option maxHeartbeats 1600000 in
/-- Lock, the lock being free -/
theorem lock_one (a : Addr) (w : World) (hc : w.cell? a = some (.int .i32 0)) (hz : w.frozen? a = false) :
    Calls Tryz.prog 198 #[.pointer (some a)] w fun e w' => e = .returned (.tuple #[]) ∧ w' = w.setCell a (.int .i32 1) := by
  have hd := race_disable
  have he := race_enable
  have ha := race_acquire
  have hcas := run_call_cas_hit (P := Tryz.prog) Tryz.func236 (by kernel_rfl) (by kernel_rfl) (by kernel_rfl) .i32 (by kernel_rfl) (y := 1) hc hz
  have hc' : (w.setCell a (.int .i32 1)).cell? a = some (.int .i32 1) := World.cell?_setCell_same w a _ hc
  have hcv := run_convert_to_unsafe (P := Tryz.prog) (src := 227) (dst := 231) Tryz.underlying227 Tryz.underlying231 (by kernel_rfl) hc'
  go_enter Tryz.func198, Tryz.ntmps198
  go_wp2
  first | go_end0 | (simp only [Exit.inBlock, Exit.then]; refine bodyPost_ret (results_none rfl _ _ _) rfl ?_) | refine bodyPost_ret (results_none rfl _ _ _) rfl ?_
  go_wp2
  go_end0
  exact ⟨rfl, rfl⟩
set_option maxRecDepth 100000 in
set_option maxHeartbeats 1600000 in
/-- Unlock, deferred, the lock being held -/
theorem unlock_door (a : Addr) (u : FrameMode) (w : World) (hc : w.cell? a = some (.int .i32 1)) (hz : w.frozen? a = false) :
    CallsD Tryz.prog 199 #[.pointer (some a)] u w fun e u' w' => u' = u ∧ (e = .returned (.tuple #[]) ∧ w' = w.setCell a (.int .i32 0)) := by
  have hd := race_disable
  have he := race_enable
  have hr := race_release
  have hadd := run_call_add (P := Tryz.prog) Tryz.func241 (by kernel_rfl) (by kernel_rfl) (by kernel_rfl) .i32 (by kernel_rfl) (y := -1) (s := 0) hc hz (by simp [go_sem]; rfl)
  have hcv := run_convert_to_unsafe (P := Tryz.prog) (src := 227) (dst := 231) Tryz.underlying227 Tryz.underlying231 (by kernel_rfl) hc
  go_enter_d Tryz.func199, Tryz.ntmps199
  go_wp2
  go_end0
  go_wp2
  go_end0
  exact ⟨rfl, rfl⟩
set_option maxRecDepth 100000 in
set_option maxHeartbeats 1600000 in
/-- Store(true), deferred -/
theorem store_door (a : Addr) (x : Value) (u : FrameMode) (w : World) (hc : w.cell? a = some x) (hz : w.frozen? a = false) :
    CallsD Tryz.prog 244 #[.pointer (some a), .bool true] u w fun e u' w' => u' = u ∧ (e = .returned (.tuple #[]) ∧ w' = w.drew.setCell a (.int .u32 1)) := by
  have hc' : w.drew.cell? a = some x := by go_simp
  have hz' : w.drew.frozen? a = false := by go_simp
  have hst := run_call_store (P := Tryz.prog) Tryz.func252 (by kernel_rfl) (by kernel_rfl) (by kernel_rfl) (by kernel_rfl) (k := .u32) (y := 1) hc' hz'
  go_enter_d Tryz.func244, Tryz.ntmps244
  go_wp2
  go_region_calls
  all_goals (go_end0; exact ⟨rfl, rfl⟩)
end Go.Proofs.YtfafbojaeedhfaaGreat

namespace Go.Proofs.YtfafbojaeedhfaaGreat
open Go.RowKit F256
set_option linter.unusedVariables false
set_option linter.unusedSimpArgs false
/-- a world's cells are owned, apart from the enclosure's own block -/
structure EncO (w : World) (E : Nat) (d : WorldD) (cs : List Value) (K : List Nat) : Prop where
  own : layWorld.own w d cs K
  nd : K.Nodup
  ne : E ∉ K
theorem world15L {w : World} {d : WorldD} {cs : List Value} {K : List Nat} (h : layWorld.own w d cs K) : ∃ v0 v1 v2 v3 v4 v5 v6 v7 v8 vp0 vl0 vq0 vp1 vl1 vq1 vp2 vl2 vq2 v9 v10 vb, cs = [.int .i64 v0, .int .i64 v1, .int .i64 v2, .int .i64 v3, .int .i64 v4, .int .i64 v5, .int .i64 v6, .int .i64 v7, .int .i64 v8, .slice vp0 vl0 vq0, .slice vp1 vl1 vq1, .slice vp2 vl2 vq2, .int .i64 v9, .int .i64 v10, .bool vb] := by
  obtain ⟨p1, pc1, p2, pc2, p3, pc3, K1, K2, K3, rfl, -⟩ := World_own h
  exact ⟨_, _, _, _, _, _, _, _, _, _, _, _, _, _, _, _, _, _, _, _, _, rfl⟩
theorem EncO.T {w : World} {E : Nat} {d : WorldD} {cs : List Value} {K : List Nat} (h : EncO w E d cs K) : OwnT layWorld w 0 w.heap.size d cs := ⟨K, h.own, h.nd, fun b hb => ⟨Nat.zero_le _, layWorld.own_lt h.own b hb⟩⟩
theorem own_cutK {w : World} {d : WorldD} {c0 c1 c2 c3 c4 c5 c6 c7 c8 c9 c10 c11 c12 c13 c14 : Value} {K : List Nat} (h : layWorld.own w d [c0, c1, c2, c3, c4, c5, c6, c7, c8, c9, c10, c11, c12, c13, c14] K) (nd : K.Nodup) : ∃ K', layWorld.own w (cutW d) [c0, c1, c2, c3, c4, c5, c6, c7, c8, c9, .slice none 0 0, c11, c12, c13, .bool true] K' ∧ K'.Nodup ∧ ∀ b, b ∈ K' → b ∈ K := by
  obtain ⟨a1, b1, a2, b2, a3, b3, K1, K2, K3, e, hM, o1, o2, o3, k0, k4, k5⟩ := World_own h
  simp only [List.cons.injEq, and_true] at e
  obtain ⟨rfl, rfl, rfl, rfl, rfl, rfl, rfl, rfl, rfl, rfl, rfl, rfl, rfl, rfl, rfl⟩ := e
  subst hM
  refine ⟨K1 ++ ([] ++ (K3 ++ [])), World_mk (cutW d) o1 (own_noInts w _ (fun _ => show (-9223372036854775808 ≤ (0 : Int) ∧ (0 : Int) ≤ 9223372036854775807) by decide)) o3 k0 k4 k5, ?_, fun b hb => ?_⟩
  · obtain ⟨n1, n2, n3⟩ := List.nodup_append.1 nd
    obtain ⟨_, n4, _⟩ := List.nodup_append.1 n2
    exact List.nodup_append.2 ⟨n1, n4, fun b hb c hc => n3 b hb c (List.mem_append_right _ hc)⟩
  · rcases List.mem_append.1 hb with h | h
    · exact List.mem_append_left _ h
    · exact List.mem_append_right _ (List.mem_append_right _ h)
set_option maxHeartbeats 8000000 in
set_option maxRecDepth 20000 in
theorem withoutPower_cells (v0 v1 v2 v3 v4 v5 v6 v7 v8 vp0 vl0 vq0 vp1 vl1 vq1 vp2 vl2 vq2 v9 v10 vb : _) (w : World) (h1 : ∀ x, x ∈ ([.int .i64 v0, .int .i64 v1, .int .i64 v2, .int .i64 v3, .int .i64 v4, .int .i64 v5, .int .i64 v6, .int .i64 v7, .int .i64 v8, .slice vp0 vl0 vq0, .slice none 0 0, .slice vp2 vl2 vq2, .int .i64 v9, .int .i64 v10, .bool true] : List Value) → x.oneCell' = true) :
    Calls Tryz.prog 136 #[.agg #[.int .i64 v0, .int .i64 v1, .int .i64 v2, .int .i64 v3, .int .i64 v4, .int .i64 v5, .int .i64 v6, .int .i64 v7, .int .i64 v8, .slice vp0 vl0 vq0, .slice vp1 vl1 vq1, .slice vp2 vl2 vq2, .int .i64 v9, .int .i64 v10, .bool vb]] w fun e w' => e = .returned (.agg #[.int .i64 v0, .int .i64 v1, .int .i64 v2, .int .i64 v3, .int .i64 v4, .int .i64 v5, .int .i64 v6, .int .i64 v7, .int .i64 v8, .slice vp0 vl0 vq0, .slice none 0 0, .slice vp2 vl2 vq2, .int .i64 v9, .int .i64 v10, .bool true]) ∧ Below w.heap.size w w' := by
  have T0 := two_newb w #[.int .i64 v0, .int .i64 v1, .int .i64 v2, .int .i64 v3, .int .i64 v4, .int .i64 v5, .int .i64 v6, .int .i64 v7, .int .i64 v8, .slice vp0 vl0 vq0, .slice vp1 vl1 vq1, .slice vp2 vl2 vq2, .int .i64 v9, .int .i64 v10, .bool vb] #[.int .i64 0, .int .i64 0, .int .i64 0, .int .i64 0, .int .i64 0, .int .i64 0, .int .i64 0, .int .i64 0, .int .i64 0, .slice none 0 0, .slice none 0 0, .slice none 0 0, .int .i64 0, .int .i64 0, .bool false] 30 30
  go_enter Tryz.func136, Tryz.ntmps136
  go_upto_region 1 with fail
  obtain ⟨W, hW⟩ : ∃ x, x = (w.alloc (.cells #[.int .i64 v0, .int .i64 v1, .int .i64 v2, .int .i64 v3, .int .i64 v4, .int .i64 v5, .int .i64 v6, .int .i64 v7, .int .i64 v8, .slice vp0 vl0 vq0, .slice vp1 vl1 vq1, .slice vp2 vl2 vq2, .int .i64 v9, .int .i64 v10, .bool vb] 30)).alloc (.cells #[.int .i64 0, .int .i64 0, .int .i64 0, .int .i64 0, .int .i64 0, .int .i64 0, .int .i64 0, .int .i64 0, .int .i64 0, .slice none 0 0, .slice none 0 0, .slice none 0 0, .int .i64 0, .int .i64 0, .bool false] 30) := ⟨_, rfl⟩
  rw [← hW] at T0 ⊢
  clear hW
  have y0 : W.cell? ⟨w.heap.size, 14, none⟩ = some (.bool vb) := T0.b1.cell 14
  have yf0 : W.frozen? ⟨w.heap.size, 14, none⟩ = false := T0.b1.frozen 14
  have X0 : Box (W.setCell ⟨w.heap.size, 14, none⟩ (.bool true)) w.heap.size #[.int .i64 v0, .int .i64 v1, .int .i64 v2, .int .i64 v3, .int .i64 v4, .int .i64 v5, .int .i64 v6, .int .i64 v7, .int .i64 v8, .slice vp0 vl0 vq0, .slice vp1 vl1 vq1, .slice vp2 vl2 vq2, .int .i64 v9, .int .i64 v10, .bool true] 30 := T0.b1.setc 14 _
  have y1 : (W.setCell ⟨w.heap.size, 14, none⟩ (.bool true)).cell? ⟨w.heap.size, 10, none⟩ = some (.slice vp1 vl1 vq1) := X0.cell 10
  have yf1 : (W.setCell ⟨w.heap.size, 14, none⟩ (.bool true)).frozen? ⟨w.heap.size, 10, none⟩ = false := X0.frozen 10
  have X1 : Box ((W.setCell ⟨w.heap.size, 14, none⟩ (.bool true)).setCell ⟨w.heap.size, 10, none⟩ (.slice none 0 0)) w.heap.size #[.int .i64 v0, .int .i64 v1, .int .i64 v2, .int .i64 v3, .int .i64 v4, .int .i64 v5, .int .i64 v6, .int .i64 v7, .int .i64 v8, .slice vp0 vl0 vq0, .slice none 0 0, .slice vp2 vl2 vq2, .int .i64 v9, .int .i64 v10, .bool true] 30 := X0.setc 10 _
  have CC : ChgL [w.heap.size] W ((W.setCell ⟨w.heap.size, 14, none⟩ (.bool true)).setCell ⟨w.heap.size, 10, none⟩ (.slice none 0 0)) := ((ChgL.refl _ _).st _ 14 (.bool true) (by simp)).st _ 10 (.slice none 0 0) (by simp)
  have R1 := T0.b2.chgl CC (by simp)
  have B1 := T0.bel.trans (CC.bel (fun b hb => by simp at hb; omega) T0.bel.size)
  have HH1 : Hid (∀ x, x ∈ ([.int .i64 v0, .int .i64 v1, .int .i64 v2, .int .i64 v3, .int .i64 v4, .int .i64 v5, .int .i64 v6, .int .i64 v7, .int .i64 v8, .slice vp0 vl0 vq0, .slice none 0 0, .slice vp2 vl2 vq2, .int .i64 v9, .int .i64 v10, .bool true] : List Value) → x.oneCell' = true) := h1
  clear h1
  go_wp2_with (first | (refine wp_loadBox 30 (.tmp 1) rfl rfl (w.heap.size) rfl (cs := [.int .i64 v0, .int .i64 v1, .int .i64 v2, .int .i64 v3, .int .i64 v4, .int .i64 v5, .int .i64 v6, .int .i64 v7, .int .i64 v8, .slice vp0 vl0 vq0, .slice none 0 0, .slice vp2 vl2 vq2, .int .i64 v9, .int .i64 v10, .bool true]) (X1) Tryz.underlying30 size_W rfl ?_) | (refine wp_storeBox 30 _ _ rfl rfl (w.heap.size + 1) rfl (cs := [.int .i64 v0, .int .i64 v1, .int .i64 v2, .int .i64 v3, .int .i64 v4, .int .i64 v5, .int .i64 v6, .int .i64 v7, .int .i64 v8, .slice vp0 vl0 vq0, .slice none 0 0, .slice vp2 vl2 vq2, .int .i64 v9, .int .i64 v10, .bool true]) (old := [.int .i64 0, .int .i64 0, .int .i64 0, .int .i64 0, .int .i64 0, .int .i64 0, .int .i64 0, .int .i64 0, .int .i64 0, .slice none 0 0, .slice none 0 0, .slice none 0 0, .int .i64 0, .int .i64 0, .bool false]) rfl R1 size_W rfl rfl HH1.out ?_; intro w9 X9 C9 z9))
  refine ret_box Tryz.results136 rfl X9 Tryz.underlying30 size_W rfl rfl ?_
  exact ⟨rfl, B1.trans (C9.bel (fun b hb => by simp at hb; omega) B1.size)⟩
set_option maxHeartbeats 16000000 in
set_option maxRecDepth 20000 in
/-- the closure that power's fall runs: the enclosure's world loses its power -/
theorem fall_any (E pe : Nat) (l o m : Int) (v0 v1 v2 v3 v4 v5 v6 v7 v8 vp0 vl0 vq0 vp1 vl1 vq1 vp2 vl2 vq2 v9 v10 vb : _) (w : World) (hp : w.cell? ⟨pe, 0, none⟩ = some (.pointer (some ⟨E, 0, none⟩))) (hpe : pe < w.heap.size) (hX : Box w E #[.int .i32 l, .int .u32 0, .int .u32 o, .int .i32 m, .int .u32 0, .int .i64 v0, .int .i64 v1, .int .i64 v2, .int .i64 v3, .int .i64 v4, .int .i64 v5, .int .i64 v6, .int .i64 v7, .int .i64 v8, .slice vp0 vl0 vq0, .slice vp1 vl1 vq1, .slice vp2 vl2 vq2, .int .i64 v9, .int .i64 v10, .bool vb] 166) (h1 : ∀ x, x ∈ ([.int .i64 v0, .int .i64 v1, .int .i64 v2, .int .i64 v3, .int .i64 v4, .int .i64 v5, .int .i64 v6, .int .i64 v7, .int .i64 v8, .slice vp0 vl0 vq0, .slice none 0 0, .slice vp2 vl2 vq2, .int .i64 v9, .int .i64 v10, .bool true] : List Value) → x.oneCell' = true) :
    Calls Tryz.prog 201 #[.pointer (some ⟨pe, 0, none⟩)] w fun e w' => e = .returned (.tuple #[]) ∧ Box w' E #[.int .i32 l, .int .u32 0, .int .u32 o, .int .i32 m, .int .u32 0, .int .i64 v0, .int .i64 v1, .int .i64 v2, .int .i64 v3, .int .i64 v4, .int .i64 v5, .int .i64 v6, .int .i64 v7, .int .i64 v8, .slice vp0 vl0 vq0, .slice none 0 0, .slice vp2 vl2 vq2, .int .i64 v9, .int .i64 v10, .bool true] 166 ∧ ChgL [E] w w' := by
  have hE : E < w.heap.size := hX.lt
  have HX : Hid (Box w E #[.int .i32 l, .int .u32 0, .int .u32 o, .int .i32 m, .int .u32 0, .int .i64 v0, .int .i64 v1, .int .i64 v2, .int .i64 v3, .int .i64 v4, .int .i64 v5, .int .i64 v6, .int .i64 v7, .int .i64 v8, .slice vp0 vl0 vq0, .slice vp1 vl1 vq1, .slice vp2 vl2 vq2, .int .i64 v9, .int .i64 v10, .bool vb] 166) := hX
  have x_5 : w.cell? ⟨E, 5, none⟩ = some (.int .i64 v0) := hX.cell 5
  have x_6 : w.cell? ⟨E, 6, none⟩ = some (.int .i64 v1) := hX.cell 6
  have x_7 : w.cell? ⟨E, 7, none⟩ = some (.int .i64 v2) := hX.cell 7
  have x_8 : w.cell? ⟨E, 8, none⟩ = some (.int .i64 v3) := hX.cell 8
  have x_9 : w.cell? ⟨E, 9, none⟩ = some (.int .i64 v4) := hX.cell 9
  have x_10 : w.cell? ⟨E, 10, none⟩ = some (.int .i64 v5) := hX.cell 10
  have x_11 : w.cell? ⟨E, 11, none⟩ = some (.int .i64 v6) := hX.cell 11
  have x_12 : w.cell? ⟨E, 12, none⟩ = some (.int .i64 v7) := hX.cell 12
  have x_13 : w.cell? ⟨E, 13, none⟩ = some (.int .i64 v8) := hX.cell 13
  have x_14 : w.cell? ⟨E, 14, none⟩ = some (.slice vp0 vl0 vq0) := hX.cell 14
  have x_15 : w.cell? ⟨E, 15, none⟩ = some (.slice vp1 vl1 vq1) := hX.cell 15
  have x_16 : w.cell? ⟨E, 16, none⟩ = some (.slice vp2 vl2 vq2) := hX.cell 16
  have x_17 : w.cell? ⟨E, 17, none⟩ = some (.int .i64 v9) := hX.cell 17
  have x_18 : w.cell? ⟨E, 18, none⟩ = some (.int .i64 v10) := hX.cell 18
  have x_19 : w.cell? ⟨E, 19, none⟩ = some (.bool vb) := hX.cell 19
  have KS : ∀ w', Below w.heap.size w w' → (w'.cell? ⟨pe, 0, none⟩ = some (.pointer (some ⟨E, 0, none⟩)) ∧ w'.cell? ⟨E, 5, none⟩ = some (.int .i64 v0) ∧ w'.cell? ⟨E, 6, none⟩ = some (.int .i64 v1) ∧ w'.cell? ⟨E, 7, none⟩ = some (.int .i64 v2) ∧ w'.cell? ⟨E, 8, none⟩ = some (.int .i64 v3) ∧ w'.cell? ⟨E, 9, none⟩ = some (.int .i64 v4) ∧ w'.cell? ⟨E, 10, none⟩ = some (.int .i64 v5) ∧ w'.cell? ⟨E, 11, none⟩ = some (.int .i64 v6) ∧ w'.cell? ⟨E, 12, none⟩ = some (.int .i64 v7) ∧ w'.cell? ⟨E, 13, none⟩ = some (.int .i64 v8) ∧ w'.cell? ⟨E, 14, none⟩ = some (.slice vp0 vl0 vq0) ∧ w'.cell? ⟨E, 15, none⟩ = some (.slice vp1 vl1 vq1) ∧ w'.cell? ⟨E, 16, none⟩ = some (.slice vp2 vl2 vq2) ∧ w'.cell? ⟨E, 17, none⟩ = some (.int .i64 v9) ∧ w'.cell? ⟨E, 18, none⟩ = some (.int .i64 v10) ∧ w'.cell? ⟨E, 19, none⟩ = some (.bool vb)) := fun w' hb => ⟨(hb.cell (p := ⟨pe, 0, none⟩) hpe).trans hp, (hb.cell (p := ⟨E, 5, none⟩) hE).trans x_5, (hb.cell (p := ⟨E, 6, none⟩) hE).trans x_6, (hb.cell (p := ⟨E, 7, none⟩) hE).trans x_7, (hb.cell (p := ⟨E, 8, none⟩) hE).trans x_8, (hb.cell (p := ⟨E, 9, none⟩) hE).trans x_9, (hb.cell (p := ⟨E, 10, none⟩) hE).trans x_10, (hb.cell (p := ⟨E, 11, none⟩) hE).trans x_11, (hb.cell (p := ⟨E, 12, none⟩) hE).trans x_12, (hb.cell (p := ⟨E, 13, none⟩) hE).trans x_13, (hb.cell (p := ⟨E, 14, none⟩) hE).trans x_14, (hb.cell (p := ⟨E, 15, none⟩) hE).trans x_15, (hb.cell (p := ⟨E, 16, none⟩) hE).trans x_16, (hb.cell (p := ⟨E, 17, none⟩) hE).trans x_17, (hb.cell (p := ⟨E, 18, none⟩) hE).trans x_18, (hb.cell (p := ⟨E, 19, none⟩) hE).trans x_19⟩
  have CC := withoutPower_cells v0 v1 v2 v3 v4 v5 v6 v7 v8 vp0 vl0 vq0 vp1 vl1 vq1 vp2 vl2 vq2 v9 v10 vb w.drew h1
  clear hX h1
  go_enter Tryz.func201, Tryz.ntmps201
  go_upto_region 0 with fail
  refine wp_region_L 8 (fun w' => w'.cell? ⟨pe, 0, none⟩ = some (.pointer (some ⟨E, 0, none⟩)) ∧ w'.cell? ⟨E, 5, none⟩ = some (.int .i64 v0) ∧ w'.cell? ⟨E, 6, none⟩ = some (.int .i64 v1) ∧ w'.cell? ⟨E, 7, none⟩ = some (.int .i64 v2) ∧ w'.cell? ⟨E, 8, none⟩ = some (.int .i64 v3) ∧ w'.cell? ⟨E, 9, none⟩ = some (.int .i64 v4) ∧ w'.cell? ⟨E, 10, none⟩ = some (.int .i64 v5) ∧ w'.cell? ⟨E, 11, none⟩ = some (.int .i64 v6) ∧ w'.cell? ⟨E, 12, none⟩ = some (.int .i64 v7) ∧ w'.cell? ⟨E, 13, none⟩ = some (.int .i64 v8) ∧ w'.cell? ⟨E, 14, none⟩ = some (.slice vp0 vl0 vq0) ∧ w'.cell? ⟨E, 15, none⟩ = some (.slice vp1 vl1 vq1) ∧ w'.cell? ⟨E, 16, none⟩ = some (.slice vp2 vl2 vq2) ∧ w'.cell? ⟨E, 17, none⟩ = some (.int .i64 v9) ∧ w'.cell? ⟨E, 18, none⟩ = some (.int .i64 v10) ∧ w'.cell? ⟨E, 19, none⟩ = some (.bool vb)) (by kernel_rfl) (KS _ ⟨rfl, rfl, rfl, Nat.le_refl _, fun _ _ => rfl⟩) (fun hHeld => ?_)
  refine wpAnyL_take (i := 0) (oi := _) (v := ?_) 16 rfl (by kernel_rfl) (fun _ _ _ h => h) (Or.inl ⟨by rfl, ?_⟩) (by assumption) ?_
  rotate_left
  · intro w' hSw
    try dsimp only at hSw
    obtain ⟨hq0, hq1, hq2, hq3, hq4, hq5, hq6, hq7, hq8, hq9, hq10, hq11, hq12, hq13, hq14, hq15⟩ := hSw
    go_simp
    try with_reducible rfl
  try simp only [Act.put, List.setIfInBounds_toArray, List.set_cons_zero, List.set_cons_succ]
  refine wpAnyL_take (i := 1) (oi := _) (v := ?_) 16 rfl (by kernel_rfl) (fun _ _ _ h => h) (Or.inl ⟨by rfl, ?_⟩) (by assumption) ?_
  rotate_left
  · intro w' hSw
    try dsimp only at hSw
    obtain ⟨hq0, hq1, hq2, hq3, hq4, hq5, hq6, hq7, hq8, hq9, hq10, hq11, hq12, hq13, hq14, hq15⟩ := hSw
    go_simp
    try with_reducible rfl
  try simp only [Act.put, List.setIfInBounds_toArray, List.set_cons_zero, List.set_cons_succ]
  refine wpAnyL_take (i := 2) (oi := _) (v := ?_) 16 rfl (by kernel_rfl) (fun _ _ _ h => h) (Or.inl ⟨by rfl, ?_⟩) (by assumption) ?_
  rotate_left
  · intro w' hSw
    try dsimp only at hSw
    obtain ⟨hq0, hq1, hq2, hq3, hq4, hq5, hq6, hq7, hq8, hq9, hq10, hq11, hq12, hq13, hq14, hq15⟩ := hSw
    go_simp
    try with_reducible rfl
  try simp only [Act.put, List.setIfInBounds_toArray, List.set_cons_zero, List.set_cons_succ]
  refine wpAnyL_take (i := 3) (oi := _) (v := ?_) 16 rfl (by kernel_rfl) (fun _ _ _ h => h) (Or.inl ⟨by rfl, ?_⟩) (by assumption) ?_
  rotate_left
  · intro w' hSw
    try dsimp only at hSw
    obtain ⟨hq0, hq1, hq2, hq3, hq4, hq5, hq6, hq7, hq8, hq9, hq10, hq11, hq12, hq13, hq14, hq15⟩ := hSw
    go_simp
    try with_reducible rfl
  try simp only [Act.put, List.setIfInBounds_toArray, List.set_cons_zero, List.set_cons_succ]
  refine wpAnyL_take (i := 4) (oi := _) (v := ?_) 16 rfl (by kernel_rfl) (fun _ _ _ h => h) (Or.inl ⟨by rfl, ?_⟩) (by assumption) ?_
  rotate_left
  · intro w' hSw
    try dsimp only at hSw
    obtain ⟨hq0, hq1, hq2, hq3, hq4, hq5, hq6, hq7, hq8, hq9, hq10, hq11, hq12, hq13, hq14, hq15⟩ := hSw
    go_simp
    try with_reducible rfl
  try simp only [Act.put, List.setIfInBounds_toArray, List.set_cons_zero, List.set_cons_succ]
  refine wpAnyL_one (i := 5) (o := _) rfl (by kernel_rfl) (fun KC hKC => ?_)
  refine step_call rfl 136 _ _ rfl #[.agg #[.int .i64 v0, .int .i64 v1, .int .i64 v2, .int .i64 v3, .int .i64 v4, .int .i64 v5, .int .i64 v6, .int .i64 v7, .int .i64 v8, .slice vp0 vl0 vq0, .slice vp1 vl1 vq1, .slice vp2 vl2 vq2, .int .i64 v9, .int .i64 v10, .bool vb]] ?_ Tryz.func136 (by kernel_rfl) (by kernel_rfl) CC ?_; (simp [Act.eval, Act.put]); rintro ee w5 ⟨rfl, b5'⟩; have b5w : Below w.heap.size w w5 := ⟨b5'.os, b5'.tape, b5'.output, b5'.size, b5'.block⟩; have X5 := HX.out.below b5w hE; have z_5 : w5.cell? ⟨E, 5, none⟩ = some (.int .i64 v0) := X5.cell 5; have zf_5 : w5.frozen? ⟨E, 5, none⟩ = false := X5.frozen 5; have z_6 : w5.cell? ⟨E, 6, none⟩ = some (.int .i64 v1) := X5.cell 6; have zf_6 : w5.frozen? ⟨E, 6, none⟩ = false := X5.frozen 6; have z_7 : w5.cell? ⟨E, 7, none⟩ = some (.int .i64 v2) := X5.cell 7; have zf_7 : w5.frozen? ⟨E, 7, none⟩ = false := X5.frozen 7; have z_8 : w5.cell? ⟨E, 8, none⟩ = some (.int .i64 v3) := X5.cell 8; have zf_8 : w5.frozen? ⟨E, 8, none⟩ = false := X5.frozen 8; have z_9 : w5.cell? ⟨E, 9, none⟩ = some (.int .i64 v4) := X5.cell 9; have zf_9 : w5.frozen? ⟨E, 9, none⟩ = false := X5.frozen 9; have z_10 : w5.cell? ⟨E, 10, none⟩ = some (.int .i64 v5) := X5.cell 10; have zf_10 : w5.frozen? ⟨E, 10, none⟩ = false := X5.frozen 10; have z_11 : w5.cell? ⟨E, 11, none⟩ = some (.int .i64 v6) := X5.cell 11; have zf_11 : w5.frozen? ⟨E, 11, none⟩ = false := X5.frozen 11; have z_12 : w5.cell? ⟨E, 12, none⟩ = some (.int .i64 v7) := X5.cell 12; have zf_12 : w5.frozen? ⟨E, 12, none⟩ = false := X5.frozen 12; have z_13 : w5.cell? ⟨E, 13, none⟩ = some (.int .i64 v8) := X5.cell 13; have zf_13 : w5.frozen? ⟨E, 13, none⟩ = false := X5.frozen 13; have z_14 : w5.cell? ⟨E, 14, none⟩ = some (.slice vp0 vl0 vq0) := X5.cell 14; have zf_14 : w5.frozen? ⟨E, 14, none⟩ = false := X5.frozen 14; have z_15 : w5.cell? ⟨E, 15, none⟩ = some (.slice vp1 vl1 vq1) := X5.cell 15; have zf_15 : w5.frozen? ⟨E, 15, none⟩ = false := X5.frozen 15; have z_16 : w5.cell? ⟨E, 16, none⟩ = some (.slice vp2 vl2 vq2) := X5.cell 16; have zf_16 : w5.frozen? ⟨E, 16, none⟩ = false := X5.frozen 16; have z_17 : w5.cell? ⟨E, 17, none⟩ = some (.int .i64 v9) := X5.cell 17; have zf_17 : w5.frozen? ⟨E, 17, none⟩ = false := X5.frozen 17; have z_18 : w5.cell? ⟨E, 18, none⟩ = some (.int .i64 v10) := X5.cell 18; have zf_18 : w5.frozen? ⟨E, 18, none⟩ = false := X5.frozen 18; have z_19 : w5.cell? ⟨E, 19, none⟩ = some (.bool vb) := X5.cell 19; have zf_19 : w5.frozen? ⟨E, 19, none⟩ = false := X5.frozen 19; refine ⟨_, rfl, ?_⟩
  refine hKC.out _ _ (KS _ b5w) (fun hHeld => ?_)
  clear hKC KC
  try simp only [Act.put, List.setIfInBounds_toArray, List.set_cons_zero, List.set_cons_succ]
  refine wpAnyL_take (i := 6) (oi := _) (v := ?_) 16 rfl (by kernel_rfl) (fun _ _ _ h => h) (Or.inl ⟨by rfl, ?_⟩) (by assumption) ?_
  rotate_left
  · intro w' hSw
    try dsimp only at hSw
    obtain ⟨hq0, hq1, hq2, hq3, hq4, hq5, hq6, hq7, hq8, hq9, hq10, hq11, hq12, hq13, hq14, hq15⟩ := hSw
    go_simp
    try with_reducible rfl
  try simp only [Act.put, List.setIfInBounds_toArray, List.set_cons_zero, List.set_cons_succ]
  refine wpAnyL_take (i := 7) (oi := _) (v := ?_) 16 rfl (by kernel_rfl) (fun _ _ _ h => h) (Or.inl ⟨by rfl, ?_⟩) (by assumption) ?_
  rotate_left
  · intro w' hSw
    try dsimp only at hSw
    obtain ⟨hq0, hq1, hq2, hq3, hq4, hq5, hq6, hq7, hq8, hq9, hq10, hq11, hq12, hq13, hq14, hq15⟩ := hSw
    go_simp
    try with_reducible rfl
  try simp only [Act.put, List.setIfInBounds_toArray, List.set_cons_zero, List.set_cons_succ]
  refine wpAnyL_last (o := _) rfl (by kernel_rfl) (fun KC hKC => ?_)
  go_simp
  refine hKC.out _ _ ?_
  clear hKC KC
  try simp only [Act.put, List.setIfInBounds_toArray, List.set_cons_zero, List.set_cons_succ]
  refine wpAnyL_done (by kernel_rfl) ?_ _
  have X6 : Box (stN w5 E 5 [.int .i64 v0, .int .i64 v1, .int .i64 v2, .int .i64 v3, .int .i64 v4, .int .i64 v5, .int .i64 v6, .int .i64 v7, .int .i64 v8, .slice vp0 vl0 vq0, .slice none 0 0, .slice vp2 vl2 vq2, .int .i64 v9, .int .i64 v10, .bool true]) E #[.int .i32 l, .int .u32 0, .int .u32 o, .int .i32 m, .int .u32 0, .int .i64 v0, .int .i64 v1, .int .i64 v2, .int .i64 v3, .int .i64 v4, .int .i64 v5, .int .i64 v6, .int .i64 v7, .int .i64 v8, .slice vp0 vl0 vq0, .slice none 0 0, .slice vp2 vl2 vq2, .int .i64 v9, .int .i64 v10, .bool true] 166 := X5.stL [.int .i64 v0, .int .i64 v1, .int .i64 v2, .int .i64 v3, .int .i64 v4, .int .i64 v5, .int .i64 v6, .int .i64 v7, .int .i64 v8, .slice vp0 vl0 vq0, .slice none 0 0, .slice vp2 vl2 vq2, .int .i64 v9, .int .i64 v10, .bool true] 5
  have C6 : ChgL [E] w (stN w5 E 5 [.int .i64 v0, .int .i64 v1, .int .i64 v2, .int .i64 v3, .int .i64 v4, .int .i64 v5, .int .i64 v6, .int .i64 v7, .int .i64 v8, .slice vp0 vl0 vq0, .slice none 0 0, .slice vp2 vl2 vq2, .int .i64 v9, .int .i64 v10, .bool true]) := (ChgL.of_below b5w).trans ⟨(stN_rest E _ w5 5).1, (stN_rest E _ w5 5).2.1, (stN_rest E _ w5 5).2.2, Nat.le_of_eq (stN_size E _ w5 5).symm, fun b _ hb => stN_heap E b (fun hh => hb (by simp [hh])) _ w5 5⟩
  go_wp2
  go_end0
  exact ⟨rfl, X6, C6⟩
end Go.Proofs.YtfafbojaeedhfaaGreat

namespace Go.Proofs.YtfafbojaeedhfaaGreat
open Go.RowKit F256
set_option linter.unusedVariables false
set_option linter.unusedSimpArgs false
theorem Box.drew {w : World} {b : Nat} {cs : Array Value} {t : TypeId} (h : Box w b cs t) : Box w.drew b cs t := h
theorem ChgL.drew {K : List Nat} {w w' : World} (h : ChgL K w w') : ChgL K w w'.drew := ⟨h.os, h.tape, h.output, h.size, h.block⟩
set_option maxRecDepth 100000 in
set_option maxHeartbeats 8000000 in
/-- doSlow, not yet done: power falls -/
theorem slow_fall (E pe : Nat) (l : Int) (v0 v1 v2 v3 v4 v5 v6 v7 v8 vp0 vl0 vq0 vp1 vl1 vq1 vp2 vl2 vq2 v9 v10 vb : _) (w : World) (hp : w.cell? ⟨pe, 0, none⟩ = some (.pointer (some ⟨E, 0, none⟩))) (hpe : pe < w.heap.size) (hne : pe ≠ E) (hX : Box w E #[.int .i32 l, .int .u32 0, .int .u32 0, .int .i32 0, .int .u32 0, .int .i64 v0, .int .i64 v1, .int .i64 v2, .int .i64 v3, .int .i64 v4, .int .i64 v5, .int .i64 v6, .int .i64 v7, .int .i64 v8, .slice vp0 vl0 vq0, .slice vp1 vl1 vq1, .slice vp2 vl2 vq2, .int .i64 v9, .int .i64 v10, .bool vb] 166) (h1 : ∀ x, x ∈ ([.int .i64 v0, .int .i64 v1, .int .i64 v2, .int .i64 v3, .int .i64 v4, .int .i64 v5, .int .i64 v6, .int .i64 v7, .int .i64 v8, .slice vp0 vl0 vq0, .slice none 0 0, .slice vp2 vl2 vq2, .int .i64 v9, .int .i64 v10, .bool true] : List Value) → x.oneCell' = true) :
    Calls Tryz.prog 227 #[.pointer (some ⟨E, 2, none⟩), .func (.func 201) #[] #[.pointer (some ⟨pe, 0, none⟩)]] w fun e w' => e = .returned (.tuple #[]) ∧ Box w' E #[.int .i32 l, .int .u32 0, .int .u32 1, .int .i32 0, .int .u32 0, .int .i64 v0, .int .i64 v1, .int .i64 v2, .int .i64 v3, .int .i64 v4, .int .i64 v5, .int .i64 v6, .int .i64 v7, .int .i64 v8, .slice vp0 vl0 vq0, .slice none 0 0, .slice vp2 vl2 vq2, .int .i64 v9, .int .i64 v10, .bool true] 166 ∧ ChgL [E] w w' := by
  have X1 : Box (w.setCell ⟨E, 3, none⟩ (.int .i32 1)) E #[.int .i32 l, .int .u32 0, .int .u32 0, .int .i32 1, .int .u32 0, .int .i64 v0, .int .i64 v1, .int .i64 v2, .int .i64 v3, .int .i64 v4, .int .i64 v5, .int .i64 v6, .int .i64 v7, .int .i64 v8, .slice vp0 vl0 vq0, .slice vp1 vl1 vq1, .slice vp2 vl2 vq2, .int .i64 v9, .int .i64 v10, .bool vb] 166 := hX.setc 3 _
  have c3 : w.cell? ⟨E, 3, none⟩ = some (.int .i32 0) := hX.cell 3
  have f3 : w.frozen? ⟨E, 3, none⟩ = false := hX.frozen 3
  have c2 : (w.setCell ⟨E, 3, none⟩ (.int .i32 1)).cell? ⟨E, 2, none⟩ = some (.int .u32 0) := X1.cell 2
  have C1 : ChgL [E] w (w.setCell ⟨E, 3, none⟩ (.int .i32 1)) := (ChgL.refl _ _).st _ 3 _ (by simp)
  have hl := run_call_load (P := Tryz.prog) Tryz.func243 (by kernel_rfl) (by kernel_rfl) (by kernel_rfl) .u32 (by kernel_rfl) c2
  have hnot : ∀ (x : Bool) (w : World), (Op.unary .not (.bool x)).run Tryz.prog w = .ok (.bool (!x)) w := fun _ _ => rfl
  have hp1 : (w.setCell ⟨E, 3, none⟩ (.int .i32 1)).cell? ⟨pe, 0, none⟩ = some (.pointer (some ⟨E, 0, none⟩)) := (World.cell?_of_block (C1.block pe hpe (by simpa using hne))).trans hp
  have CF := fall_any E pe l 0 1 v0 v1 v2 v3 v4 v5 v6 v7 v8 vp0 vl0 vq0 vp1 vl1 vq1 vp2 vl2 vq2 v9 v10 vb _ hp1 (by simpa using hpe) X1 h1
  have HC1 : Hid (ChgL [E] w (w.setCell ⟨E, 3, none⟩ (.int .i32 1))) := C1
  have HCF := CF
  clear C1 X1 hX h1 hp hp1 CF
  go_enter_defers Tryz.func227, Tryz.ntmps227
  go_wp2_with (first | (go_at_call 198; refine (lock_one ⟨E, 3, none⟩ _ c3 f3).mono ?_; rintro e w' ⟨rfl, rfl⟩) | (go_at_call 201; refine HCF.mono ?_; rintro e w5 ⟨rfl, X5, C5⟩) | (go_at_call 226; go_in))
  refine leaves_cons (f := 244) (args := #[.pointer (some ⟨E, 2, none⟩), .bool true]) (by simp) (by simp [go_sem]) ?_
  refine (store_door ⟨E, 2, none⟩ (.int .u32 0) .returning _ (X5.cell 2) (X5.frozen 2)).mono ?_
  rintro e u' w'' ⟨rfl, rfl, rfl⟩
  have X6 : Box (w5.drew.setCell ⟨E, 2, none⟩ (.int .u32 1)) E #[.int .i32 l, .int .u32 0, .int .u32 1, .int .i32 1, .int .u32 0, .int .i64 v0, .int .i64 v1, .int .i64 v2, .int .i64 v3, .int .i64 v4, .int .i64 v5, .int .i64 v6, .int .i64 v7, .int .i64 v8, .slice vp0 vl0 vq0, .slice none 0 0, .slice vp2 vl2 vq2, .int .i64 v9, .int .i64 v10, .bool true] 166 := X5.drew.setc 2 _
  refine leaves_cons (f := 199) (args := #[.pointer (some ⟨E, 3, none⟩)]) (by simp [settle]) (by simp [go_sem]) ?_
  refine (unlock_door ⟨E, 3, none⟩ _ _ (X6.cell 3) (X6.frozen 3)).mono ?_
  rintro e u' w'' ⟨rfl, rfl, rfl⟩
  have X7 : Box ((w5.drew.setCell ⟨E, 2, none⟩ (.int .u32 1)).setCell ⟨E, 3, none⟩ (.int .i32 0)) E #[.int .i32 l, .int .u32 0, .int .u32 1, .int .i32 0, .int .u32 0, .int .i64 v0, .int .i64 v1, .int .i64 v2, .int .i64 v3, .int .i64 v4, .int .i64 v5, .int .i64 v6, .int .i64 v7, .int .i64 v8, .slice vp0 vl0 vq0, .slice none 0 0, .slice vp2 vl2 vq2, .int .i64 v9, .int .i64 v10, .bool true] 166 := X6.setc 3 _
  have C7 : ChgL [E] w ((w5.drew.setCell ⟨E, 2, none⟩ (.int .u32 1)).setCell ⟨E, 3, none⟩ (.int .i32 0)) := (((HC1.out.trans C5).drew.st _ 2 _ (by simp)).st _ 3 _ (by simp))
  simp only [Leaves, settle]
  exact ⟨_, results_none rfl _ _ _, rfl, X7, C7⟩
set_option maxRecDepth 100000 in
set_option maxHeartbeats 8000000 in
/-- Do, not yet done: power falls -/
theorem once_fall (E pe : Nat) (l : Int) (v0 v1 v2 v3 v4 v5 v6 v7 v8 vp0 vl0 vq0 vp1 vl1 vq1 vp2 vl2 vq2 v9 v10 vb : _) (w : World) (hp : w.cell? ⟨pe, 0, none⟩ = some (.pointer (some ⟨E, 0, none⟩))) (hpe : pe < w.heap.size) (hne : pe ≠ E) (hX : Box w E #[.int .i32 l, .int .u32 0, .int .u32 0, .int .i32 0, .int .u32 0, .int .i64 v0, .int .i64 v1, .int .i64 v2, .int .i64 v3, .int .i64 v4, .int .i64 v5, .int .i64 v6, .int .i64 v7, .int .i64 v8, .slice vp0 vl0 vq0, .slice vp1 vl1 vq1, .slice vp2 vl2 vq2, .int .i64 v9, .int .i64 v10, .bool vb] 166) (h1 : ∀ x, x ∈ ([.int .i64 v0, .int .i64 v1, .int .i64 v2, .int .i64 v3, .int .i64 v4, .int .i64 v5, .int .i64 v6, .int .i64 v7, .int .i64 v8, .slice vp0 vl0 vq0, .slice none 0 0, .slice vp2 vl2 vq2, .int .i64 v9, .int .i64 v10, .bool true] : List Value) → x.oneCell' = true) :
    Calls Tryz.prog 200 #[.pointer (some ⟨E, 2, none⟩), .func (.func 201) #[] #[.pointer (some ⟨pe, 0, none⟩)]] w fun e w' => e = .returned (.tuple #[]) ∧ Box w' E #[.int .i32 l, .int .u32 0, .int .u32 1, .int .i32 0, .int .u32 0, .int .i64 v0, .int .i64 v1, .int .i64 v2, .int .i64 v3, .int .i64 v4, .int .i64 v5, .int .i64 v6, .int .i64 v7, .int .i64 v8, .slice vp0 vl0 vq0, .slice none 0 0, .slice vp2 vl2 vq2, .int .i64 v9, .int .i64 v10, .bool true] 166 ∧ ChgL [E] w w' := by
  have CS := slow_fall E pe l v0 v1 v2 v3 v4 v5 v6 v7 v8 vp0 vl0 vq0 vp1 vl1 vq1 vp2 vl2 vq2 v9 v10 vb w hp hpe hne hX h1
  have c2 : w.cell? ⟨E, 2, none⟩ = some (.int .u32 0) := hX.cell 2
  have hl := run_call_load (P := Tryz.prog) Tryz.func243 (by kernel_rfl) (by kernel_rfl) (by kernel_rfl) .u32 (by kernel_rfl) c2
  have hnot : ∀ (x : Bool) (w : World), (Op.unary .not (.bool x)).run Tryz.prog w = .ok (.bool (!x)) w := fun _ _ => rfl
  clear hX h1 hp
  go_enter Tryz.func200, Tryz.ntmps200
  go_wp2_with (first | (go_at_call 227; refine CS.mono ?_; rintro e w5 ⟨rfl, X5, C5⟩) | (go_at_call 226; go_in))
  go_end0
  exact ⟨rfl, X5, C5⟩
end Go.Proofs.YtfafbojaeedhfaaGreat

namespace Go.Proofs.YtfafbojaeedhfaaGreat
open Go.RowKit F256
set_option linter.unusedVariables false
set_option linter.unusedSimpArgs false
set_option maxRecDepth 100000 in
set_option maxHeartbeats 8000000 in
/-- a raw write at which power fails: nothing is changed but that power is gone -/
theorem rawWrite_fail (E : Nat) (v0 v1 v2 v3 v4 v5 v6 v7 v8 vp0 vl0 vq0 vp1 vl1 vq1 vp2 vl2 vq2 v9 v10 vb : _) (fv : Value) (w : World) (hX : Box w E #[.int .i32 0, .int .u32 0, .int .u32 0, .int .i32 0, .int .u32 0, .int .i64 v0, .int .i64 v1, .int .i64 v2, .int .i64 v3, .int .i64 v4, .int .i64 v5, .int .i64 v6, .int .i64 v7, .int .i64 v8, .slice vp0 vl0 vq0, .slice vp1 vl1 vq1, .slice vp2 vl2 vq2, .int .i64 v9, .int .i64 v10, .bool vb] 166) (h1 : ∀ x, x ∈ ([.int .i64 v0, .int .i64 v1, .int .i64 v2, .int .i64 v3, .int .i64 v4, .int .i64 v5, .int .i64 v6, .int .i64 v7, .int .i64 v8, .slice vp0 vl0 vq0, .slice none 0 0, .slice vp2 vl2 vq2, .int .i64 v9, .int .i64 v10, .bool true] : List Value) → x.oneCell' = true) (hs : v10 ≠ -1) (hw : v10 ≤ v9) :
    Calls Tryz.prog 154 #[.pointer (some ⟨E, 0, none⟩), fv] w fun e w' => e = .panicked [{ v := .iface 199 (.agg #[]), recovered := false }] ∧ Box w' E #[.int .i32 0, .int .u32 0, .int .u32 1, .int .i32 0, .int .u32 0, .int .i64 v0, .int .i64 v1, .int .i64 v2, .int .i64 v3, .int .i64 v4, .int .i64 v5, .int .i64 v6, .int .i64 v7, .int .i64 v8, .slice vp0 vl0 vq0, .slice none 0 0, .slice vp2 vl2 vq2, .int .i64 v9, .int .i64 v10, .bool true] 166 ∧ ChgL [E] w w' := by
  have d1 : (v10 != -1) = true := by simpa using hs
  have d2 : decide (v10 ≤ v9) = true := by simpa using hw
  have H1 : Hid (∀ x, x ∈ ([.int .i64 v0, .int .i64 v1, .int .i64 v2, .int .i64 v3, .int .i64 v4, .int .i64 v5, .int .i64 v6, .int .i64 v7, .int .i64 v8, .slice vp0 vl0 vq0, .slice none 0 0, .slice vp2 vl2 vq2, .int .i64 v9, .int .i64 v10, .bool true] : List Value) → x.oneCell' = true) := h1
  clear hs hw h1
  have hE : E < w.heap.size := hX.lt
  have hmf : ∀ (fn : Fn) (first cap : Array Value) (w : World), (Instr.makeFunc fn first cap).run Tryz.prog w = .ok (.func fn first cap) w := fun _ _ _ _ => rfl
  have bA : Below w.heap.size w (w.alloc (.cells #[.pointer (some ⟨E, 0, none⟩)] 104)) := (Below.refl _ _).alloc (Nat.le_refl _) _
  have P1 : Box (w.alloc (.cells #[.pointer (some ⟨E, 0, none⟩)] 104)) w.heap.size #[.pointer (some ⟨E, 0, none⟩)] 104 := box_new _ _ _
  have X1 := hX.below bA hE
  go_enter_defers Tryz.func154, Tryz.ntmps154
  go_upto_region 1 with fail
  obtain ⟨W1, hW1⟩ : ∃ x, x = w.alloc (.cells #[.pointer (some ⟨E, 0, none⟩)] 104) := ⟨_, rfl⟩
  rw [← hW1] at bA P1 X1 ⊢
  have zW : W1.heap.size = w.heap.size + 1 := by rw [hW1]; simp
  clear hW1
  have hp1 : W1.cell? ⟨w.heap.size, 0, none⟩ = some (.pointer (some ⟨E, 0, none⟩)) := P1.cell 0
  have c0 : W1.cell? ⟨E, 0, none⟩ = some (.int .i32 0) := X1.cell 0
  have f0 : W1.frozen? ⟨E, 0, none⟩ = false := X1.frozen 0
  have X2 : Box (W1.setCell ⟨E, 0, none⟩ (.int .i32 1)) E #[.int .i32 1, .int .u32 0, .int .u32 0, .int .i32 0, .int .u32 0, .int .i64 v0, .int .i64 v1, .int .i64 v2, .int .i64 v3, .int .i64 v4, .int .i64 v5, .int .i64 v6, .int .i64 v7, .int .i64 v8, .slice vp0 vl0 vq0, .slice vp1 vl1 vq1, .slice vp2 vl2 vq2, .int .i64 v9, .int .i64 v10, .bool vb] 166 := X1.setc 0 _
  have P2 : Box (W1.setCell ⟨E, 0, none⟩ (.int .i32 1)) w.heap.size #[.pointer (some ⟨E, 0, none⟩)] 104 := P1.seto 0 _ (by omega)
  have C2' : ChgL [E] w (W1.setCell ⟨E, 0, none⟩ (.int .i32 1)) := (ChgL.of_below bA).st _ 0 _ (by simp)
  go_upto_region 2 with (go_at_call 198; refine (lock_one ⟨E, 0, none⟩ _ c0 f0).mono ?_; rintro e w' ⟨rfl, rfl⟩)
  obtain ⟨W2, hW2⟩ : ∃ x, x = W1.setCell ⟨E, 0, none⟩ (.int .i32 1) := ⟨_, rfl⟩
  rw [← hW2] at X2 P2 C2' ⊢
  have z2 : W2.heap.size = w.heap.size + 1 := by rw [hW2]; simpa using zW
  clear hW2 hp1 c0 f0 X1 P1 bA hX
  have hp2 : W2.cell? ⟨w.heap.size, 0, none⟩ = some (.pointer (some ⟨E, 0, none⟩)) := P2.cell 0
  have x17 : W2.cell? ⟨E, 17, none⟩ = some (.int .i64 v9) := X2.cell 17
  have x18 : W2.cell? ⟨E, 18, none⟩ = some (.int .i64 v10) := X2.cell 18
  go_upto_region 3 with fail
  go_quiet (fail)
  go_upto_region 4 with fail
  obtain ⟨W3, hW3⟩ : ∃ x, x = W2.drewN nq := ⟨_, rfl⟩
  rw [← hW3]
  have X3 : Box W3 E #[.int .i32 1, .int .u32 0, .int .u32 0, .int .i32 0, .int .u32 0, .int .i64 v0, .int .i64 v1, .int .i64 v2, .int .i64 v3, .int .i64 v4, .int .i64 v5, .int .i64 v6, .int .i64 v7, .int .i64 v8, .slice vp0 vl0 vq0, .slice vp1 vl1 vq1, .slice vp2 vl2 vq2, .int .i64 v9, .int .i64 v10, .bool vb] 166 := by rw [hW3]; exact X2
  have P3 : Box W3 w.heap.size #[.pointer (some ⟨E, 0, none⟩)] 104 := by rw [hW3]; exact P2
  have C3' : ChgL [E] w W3 := by rw [hW3]; exact ⟨C2'.os, C2'.tape, C2'.output, C2'.size, C2'.block⟩
  have z3 : W3.heap.size = w.heap.size + 1 := by rw [hW3]; exact z2
  have hp3 : W3.cell? ⟨w.heap.size, 0, none⟩ = some (.pointer (some ⟨E, 0, none⟩)) := P3.cell 0
  clear hW3 X2 P2 C2' z2 hp2 x17 x18
  go_wp2_with (go_at_call 200; refine (once_fall E w.heap.size 1 v0 v1 v2 v3 v4 v5 v6 v7 v8 vp0 vl0 vq0 vp1 vl1 vq1 vp2 vl2 vq2 v9 v10 vb _ hp3 (by omega) (by omega) X3 H1.out).mono ?_; rintro e w5 ⟨rfl, X5, C5⟩)
  refine leaves_cons (f := 199) (args := #[.pointer (some ⟨E, 0, none⟩)]) (by simp) (by simp [go_sem]) ?_
  refine (unlock_door ⟨E, 0, none⟩ _ _ (X5.cell 0) (X5.frozen 0)).mono ?_
  rintro e u' w'' ⟨rfl, rfl, rfl⟩
  have X6 : Box (w5.setCell ⟨E, 0, none⟩ (.int .i32 0)) E #[.int .i32 0, .int .u32 0, .int .u32 1, .int .i32 0, .int .u32 0, .int .i64 v0, .int .i64 v1, .int .i64 v2, .int .i64 v3, .int .i64 v4, .int .i64 v5, .int .i64 v6, .int .i64 v7, .int .i64 v8, .slice vp0 vl0 vq0, .slice none 0 0, .slice vp2 vl2 vq2, .int .i64 v9, .int .i64 v10, .bool true] 166 := X5.setc 0 _
  have C6 : ChgL [E] w (w5.setCell ⟨E, 0, none⟩ (.int .i32 0)) := (C3'.trans C5).st _ 0 _ (by simp)
  simp only [Leaves, settle]
  exact ⟨trivial, X6, C6⟩
theorem own_writesK {w : World} {d : WorldD} {c0 c1 c2 c3 c4 c5 c6 c7 c8 c9 c10 c11 c12 c13 c14 : Value} {K : List Nat} (n : Int) (hn : -9223372036854775808 ≤ n ∧ n ≤ 9223372036854775807) (h : layWorld.own w d [c0, c1, c2, c3, c4, c5, c6, c7, c8, c9, c10, c11, c12, c13, c14] K) : layWorld.own w { d with writes := n } [c0, c1, c2, c3, c4, c5, c6, c7, c8, c9, c10, c11, .int .i64 n, c13, c14] K := by
  obtain ⟨a1, b1, a2, b2, a3, b3, K1, K2, K3, e, hM, o1, o2, o3, k0, k4, k5⟩ := World_own h
  simp only [List.cons.injEq, and_true] at e
  obtain ⟨rfl, rfl, rfl, rfl, rfl, rfl, rfl, rfl, rfl, rfl, rfl, rfl, rfl, rfl, rfl⟩ := e
  subst hM
  exact World_mk { d with writes := n } o1 o2 o3 k0 hn k5
theorem writes_of {w : World} {d : WorldD} {c0 c1 c2 c3 c4 c5 c6 c7 c8 c9 c10 c11 c13 c14 : Value} {n : Int} {K : List Nat} (h : layWorld.own w d [c0, c1, c2, c3, c4, c5, c6, c7, c8, c9, c10, c11, .int .i64 n, c13, c14] K) : n = d.writes := by
  obtain ⟨a1, b1, a2, b2, a3, b3, K1, K2, K3, e, _⟩ := World_own h
  simp only [List.cons.injEq, Value.int.injEq, true_and, and_true] at e
  exact e.2.2.2.2.2.2.2.2.2.2.2.2.1
theorem stop_of {w : World} {d : WorldD} {c0 c1 c2 c3 c4 c5 c6 c7 c8 c9 c10 c11 c12 c14 : Value} {n : Int} {K : List Nat} (h : layWorld.own w d [c0, c1, c2, c3, c4, c5, c6, c7, c8, c9, c10, c11, c12, .int .i64 n, c14] K) : n = d.stop := by
  obtain ⟨a1, b1, a2, b2, a3, b3, K1, K2, K3, e, _⟩ := World_own h
  simp only [List.cons.injEq, Value.int.injEq, true_and, and_true] at e
  exact e.2.2.2.2.2.2.2.2.2.2.2.2.2.1
theorem EncO.chg {w w' : World} {E : Nat} {d : WorldD} {cs : List Value} {K : List Nat} (h : EncO w E d cs K) (hc : ChgL [E] w w') : EncO w' E d cs K := ⟨Lay.own_chgL _ h.own hc (fun b hb hbE => by simp only [List.mem_singleton] at hbE; subst hbE; exact h.ne hb), h.nd, h.ne⟩
end Go.Proofs.YtfafbojaeedhfaaGreat

namespace Go.Proofs.YtfafbojaeedhfaaGreat
open Go.RowKit F256
set_option linter.unusedVariables false
set_option linter.unusedSimpArgs false
theorem EncO.open {w : World} {E : Nat} {d : WorldD} {cs : List Value} {K : List Nat} (h : EncO w E d cs K) : ∃ p1 c1 p2 c2 p3 c3 K1 K2 K3, cs = [.int .i64 (d.shape 0), .int .i64 (d.shape 1), .int .i64 (d.shape 2), .int .i64 (d.shape 3), .int .i64 (d.shape 4), .int .i64 (d.shape 5), .int .i64 (d.shape 6), .int .i64 (d.shape 7), .int .i64 (d.shape 8), .slice p1 d.groups.1 c1, .slice p2 d.on.1 c2, .slice p3 d.tapes.1 c3, .int .i64 d.writes, .int .i64 d.stop, .bool d.down] ∧ K = K1 ++ (K2 ++ K3) ∧ WOpen w 0 w.heap.size d (.slice p1 d.groups.1 c1) (.slice p2 d.on.1 c2) (.slice p3 d.tapes.1 c3) K1 K2 K3 := by
  obtain ⟨a1, b1, a2, b2, a3, b3, K1, K2, K3, e, hM, o1, o2, o3, k0, k4, k5⟩ := World_own h.own
  have hl := fun b hb => layWorld.own_lt h.own b hb
  have nd := h.nd
  subst hM
  simp only [List.append_nil] at nd hl
  exact ⟨a1, b1, a2, b2, a3, b3, K1, K2, K3, e, by simp, o1, o2, o3, nd, fun b hb => ⟨Nat.zero_le _, hl b hb⟩, k0, k4, k5⟩
theorem WOpen.encO {w : World} {lo hi E : Nat} {d : WorldD} {p1 p2 p3 : Option Addr} {c1 c2 c3 : Nat} {K1 K2 K3 : List Nat} (h : WOpen w lo hi d (.slice p1 d.groups.1 c1) (.slice p2 d.on.1 c2) (.slice p3 d.tapes.1 c3) K1 K2 K3) (hE : E ∉ K1 ++ (K2 ++ K3)) : EncO w E d [.int .i64 (d.shape 0), .int .i64 (d.shape 1), .int .i64 (d.shape 2), .int .i64 (d.shape 3), .int .i64 (d.shape 4), .int .i64 (d.shape 5), .int .i64 (d.shape 6), .int .i64 (d.shape 7), .int .i64 (d.shape 8), .slice p1 d.groups.1 c1, .slice p2 d.on.1 c2, .slice p3 d.tapes.1 c3, .int .i64 d.writes, .int .i64 d.stop, .bool d.down] (K1 ++ (K2 ++ (K3 ++ []))) :=
  ⟨World_mk d h.g h.o h.t h.k0 h.k4 h.k5, by simpa using h.nd, by simpa using hE⟩
/-- the drives of a group laid open, and the way back, with what the blocks are -/
theorem WOpen.drives2 {w : World} {lo hi : Nat} {d : WorldD} {v1 v2 v3 : Value} {K1 K2 K3 : List Nat} (h : WOpen w lo hi d v1 v2 v3 K1 K2 K3) (hhi : hi ≤ w.heap.size) (hlo : lo ≤ w.heap.size) {G : Nat} (hG : G < d.groups.1) (hD : (d.groups.2 G).1 ≠ 0) :
    ∃ g1 c1 g cap ce Ls, v1 = .slice (some ⟨g1, 0, none⟩) d.groups.1 c1 ∧ w.cell? ⟨g1, G, none⟩ = some (.slice (some ⟨g, 0, none⟩) (d.groups.2 G).1 cap) ∧ SlO layDrive 48 w g cap (d.groups.2 G).1 (d.groups.2 G).2 ce Ls ∧ (g :: catN (d.groups.2 G).1 Ls).Nodup ∧ (∀ b, b ∈ g :: catN (d.groups.2 G).1 Ls → b ∈ K1) ∧ g1 ∈ K1 ∧ g1 ∉ g :: catN (d.groups.2 G).1 Ls ∧
      ∀ (w' : World) (p : Nat × (Nat → DriveD)) (K' : List Nat), Turn (layDrive.slice 48) w (g :: catN (d.groups.2 G).1 Ls) w' p [.slice (some ⟨g, 0, none⟩) (d.groups.2 G).1 cap] K' → ∃ K1', WOpen w' lo w'.heap.size { d with groups := (d.groups.1, upd d.groups.2 G p) } v1 v2 v3 K1' K2 K3 ∧ (∀ b, b ∈ K1' → b ∈ K1 ∨ w.heap.size ≤ b) ∧ ChgL K1 w w' := by
  obtain ⟨g1, c1, ce1, Ls1, e1, eL1, S1⟩ := slice_form h.g (by omega)
  cases e1
  subst eL1
  have nd1 : (g1 :: catN d.groups.1 Ls1).Nodup := (List.nodup_append.1 h.nd).1
  obtain ⟨g, cap, ce, Ls, e2, eL2, S2⟩ := slice_form (S1.each G hG) hD
  have nd2 : (g :: catN (d.groups.2 G).1 Ls).Nodup := by rw [← eL2]; exact catN_each (List.nodup_cons.1 nd1).2 hG
  have sub2 : ∀ b, b ∈ g :: catN (d.groups.2 G).1 Ls → b ∈ g1 :: catN d.groups.1 Ls1 := fun b hb => SlO.sub G hG b (by rw [eL2]; exact hb)
  refine ⟨g1, c1, g, cap, ce, Ls, rfl, ?_, S2, nd2, sub2, List.mem_cons_self .., fun hb => (List.nodup_cons.1 nd1).1 (mem_catN.2 ⟨G, hG, by rw [eL2]; exact hb⟩), fun w' p K' ht => ?_⟩
  · have := S1.cell hG (j := 0) (by decide)
    have e : G * (layDrive.slice 48).sz + 0 = G := by show G * 1 + 0 = G; omega
    rw [e, e2] at this
    exact this
  · rw [← eL2, ← e2] at ht
    have T1 := S1.turn_in nd1 hG ht
    exact ⟨_, h.groups hhi hlo T1, fun b hb => (T1.sub b hb).imp id (fun h => h.1), T1.chg⟩
def trustD (x : DriveD) : DriveD := { x with wiped := false }
def trustW (d : WorldD) (G k : Nat) : WorldD := { d with groups := (d.groups.1, upd d.groups.2 G ((d.groups.2 G).1, upd (d.groups.2 G).2 k (trustD ((d.groups.2 G).2 k)))) }
end Go.Proofs.YtfafbojaeedhfaaGreat

namespace Go.Proofs.YtfafbojaeedhfaaGreat
open Go.RowKit F256
set_option linter.unusedVariables false
set_option linter.unusedSimpArgs false
set_option maxHeartbeats 8000000 in
set_option maxRecDepth 20000 in
theorem tell_idle (R pv E : Nat) (l o m : Int) (y0 y1 y2 y3 y4 y5 y6 y7 y8 yp0 yl0 yq0 yp1 yl1 yq1 yp2 yl2 yq2 y9 y10 yb : _) (w : World) (hR : Box w R #[.int .i64 0, .int .i64 0, .int .i64 0, .int .i64 0, .int .i64 0, .int .i64 0, .int .i64 0, .int .i64 0, .int .i64 0, .int .i64 0, .slice none 0 0, .slice none 0 0, .slice none 0 0, .int .i64 0, .int .i64 0, .bool false] 34) (hp : w.cell? ⟨pv, 0, none⟩ = some (.pointer (some ⟨E, 0, none⟩))) (hX : Box w E #[.int .i32 l, .int .u32 0, .int .u32 o, .int .i32 m, .int .u32 0, .int .i64 y0, .int .i64 y1, .int .i64 y2, .int .i64 y3, .int .i64 y4, .int .i64 y5, .int .i64 y6, .int .i64 y7, .int .i64 y8, .slice yp0 yl0 yq0, .slice yp1 yl1 yq1, .slice yp2 yl2 yq2, .int .i64 y9, .int .i64 y10, .bool yb] 166) (hRE : R ≠ E) (hRp : R ≠ pv) :
    CallsD Tryz.prog 153 #[.pointer (some ⟨R, 0, none⟩), .pointer (some ⟨pv, 0, none⟩)] .returning w fun e u' w' => e = .returned (.tuple #[]) ∧ u' = .returning ∧ Box w' R #[.int .i64 0, .int .i64 y0, .int .i64 y1, .int .i64 y2, .int .i64 y3, .int .i64 y4, .int .i64 y5, .int .i64 y6, .int .i64 y7, .int .i64 y8, .slice yp0 yl0 yq0, .slice yp1 yl1 yq1, .slice yp2 yl2 yq2, .int .i64 y9, .int .i64 y10, .bool yb] 34 ∧ ChgL [R] w w' := by
  have x_5 : w.cell? ⟨E, 5, none⟩ = some (.int .i64 y0) := hX.cell 5
  have x_6 : w.cell? ⟨E, 6, none⟩ = some (.int .i64 y1) := hX.cell 6
  have x_7 : w.cell? ⟨E, 7, none⟩ = some (.int .i64 y2) := hX.cell 7
  have x_8 : w.cell? ⟨E, 8, none⟩ = some (.int .i64 y3) := hX.cell 8
  have x_9 : w.cell? ⟨E, 9, none⟩ = some (.int .i64 y4) := hX.cell 9
  have x_10 : w.cell? ⟨E, 10, none⟩ = some (.int .i64 y5) := hX.cell 10
  have x_11 : w.cell? ⟨E, 11, none⟩ = some (.int .i64 y6) := hX.cell 11
  have x_12 : w.cell? ⟨E, 12, none⟩ = some (.int .i64 y7) := hX.cell 12
  have x_13 : w.cell? ⟨E, 13, none⟩ = some (.int .i64 y8) := hX.cell 13
  have x_14 : w.cell? ⟨E, 14, none⟩ = some (.slice yp0 yl0 yq0) := hX.cell 14
  have x_15 : w.cell? ⟨E, 15, none⟩ = some (.slice yp1 yl1 yq1) := hX.cell 15
  have x_16 : w.cell? ⟨E, 16, none⟩ = some (.slice yp2 yl2 yq2) := hX.cell 16
  have x_17 : w.cell? ⟨E, 17, none⟩ = some (.int .i64 y9) := hX.cell 17
  have x_18 : w.cell? ⟨E, 18, none⟩ = some (.int .i64 y10) := hX.cell 18
  have x_19 : w.cell? ⟨E, 19, none⟩ = some (.bool yb) := hX.cell 19
  have R1 := hR
  have X1 := hX
  have hp1 := hp
  have C1 : ChgL [R] w w := ChgL.refl _ _
  refine callsD_of_wpS Tryz.func153 rfl fun c₀ cs hu => ?_
  apply wpS_seq
  apply wpS_seq
  apply wpS_region
  simp [wpOpsS, go_sem, recoverD, hu, Tryz.ntmps153, Exit.thenS]
  refine wpS_cond (t := false) (by simp [Act.eval, Array.replicate]) ?_
  simp only [Bool.false_eq_true, if_false]
  refine wpS_of_wp (wp_skip ?_)
  simp only [Exit.thenS]
  clear hR hX hp
  refine wpS_of_wp ?_
  have e_5 : w.cell? ⟨E, 5, none⟩ = some (.int .i64 y0) := X1.cell 5
  have e_6 : w.cell? ⟨E, 6, none⟩ = some (.int .i64 y1) := X1.cell 6
  have e_7 : w.cell? ⟨E, 7, none⟩ = some (.int .i64 y2) := X1.cell 7
  have e_8 : w.cell? ⟨E, 8, none⟩ = some (.int .i64 y3) := X1.cell 8
  have e_9 : w.cell? ⟨E, 9, none⟩ = some (.int .i64 y4) := X1.cell 9
  have e_10 : w.cell? ⟨E, 10, none⟩ = some (.int .i64 y5) := X1.cell 10
  have e_11 : w.cell? ⟨E, 11, none⟩ = some (.int .i64 y6) := X1.cell 11
  have e_12 : w.cell? ⟨E, 12, none⟩ = some (.int .i64 y7) := X1.cell 12
  have e_13 : w.cell? ⟨E, 13, none⟩ = some (.int .i64 y8) := X1.cell 13
  have e_14 : w.cell? ⟨E, 14, none⟩ = some (.slice yp0 yl0 yq0) := X1.cell 14
  have e_15 : w.cell? ⟨E, 15, none⟩ = some (.slice yp1 yl1 yq1) := X1.cell 15
  have e_16 : w.cell? ⟨E, 16, none⟩ = some (.slice yp2 yl2 yq2) := X1.cell 16
  have e_17 : w.cell? ⟨E, 17, none⟩ = some (.int .i64 y9) := X1.cell 17
  have e_18 : w.cell? ⟨E, 18, none⟩ = some (.int .i64 y10) := X1.cell 18
  have e_19 : w.cell? ⟨E, 19, none⟩ = some (.bool yb) := X1.cell 19
  have r_1 : w.cell? ⟨R, 1, none⟩ = some (.int .i64 0) := R1.cell 1
  have rf_1 : w.frozen? ⟨R, 1, none⟩ = false := R1.frozen 1
  have r_2 : w.cell? ⟨R, 2, none⟩ = some (.int .i64 0) := R1.cell 2
  have rf_2 : w.frozen? ⟨R, 2, none⟩ = false := R1.frozen 2
  have r_3 : w.cell? ⟨R, 3, none⟩ = some (.int .i64 0) := R1.cell 3
  have rf_3 : w.frozen? ⟨R, 3, none⟩ = false := R1.frozen 3
  have r_4 : w.cell? ⟨R, 4, none⟩ = some (.int .i64 0) := R1.cell 4
  have rf_4 : w.frozen? ⟨R, 4, none⟩ = false := R1.frozen 4
  have r_5 : w.cell? ⟨R, 5, none⟩ = some (.int .i64 0) := R1.cell 5
  have rf_5 : w.frozen? ⟨R, 5, none⟩ = false := R1.frozen 5
  have r_6 : w.cell? ⟨R, 6, none⟩ = some (.int .i64 0) := R1.cell 6
  have rf_6 : w.frozen? ⟨R, 6, none⟩ = false := R1.frozen 6
  have r_7 : w.cell? ⟨R, 7, none⟩ = some (.int .i64 0) := R1.cell 7
  have rf_7 : w.frozen? ⟨R, 7, none⟩ = false := R1.frozen 7
  have r_8 : w.cell? ⟨R, 8, none⟩ = some (.int .i64 0) := R1.cell 8
  have rf_8 : w.frozen? ⟨R, 8, none⟩ = false := R1.frozen 8
  have r_9 : w.cell? ⟨R, 9, none⟩ = some (.int .i64 0) := R1.cell 9
  have rf_9 : w.frozen? ⟨R, 9, none⟩ = false := R1.frozen 9
  have r_10 : w.cell? ⟨R, 10, none⟩ = some (.slice none 0 0) := R1.cell 10
  have rf_10 : w.frozen? ⟨R, 10, none⟩ = false := R1.frozen 10
  have r_11 : w.cell? ⟨R, 11, none⟩ = some (.slice none 0 0) := R1.cell 11
  have rf_11 : w.frozen? ⟨R, 11, none⟩ = false := R1.frozen 11
  have r_12 : w.cell? ⟨R, 12, none⟩ = some (.slice none 0 0) := R1.cell 12
  have rf_12 : w.frozen? ⟨R, 12, none⟩ = false := R1.frozen 12
  have r_13 : w.cell? ⟨R, 13, none⟩ = some (.int .i64 0) := R1.cell 13
  have rf_13 : w.frozen? ⟨R, 13, none⟩ = false := R1.frozen 13
  have r_14 : w.cell? ⟨R, 14, none⟩ = some (.int .i64 0) := R1.cell 14
  have rf_14 : w.frozen? ⟨R, 14, none⟩ = false := R1.frozen 14
  have r_15 : w.cell? ⟨R, 15, none⟩ = some (.bool false) := R1.cell 15
  have rf_15 : w.frozen? ⟨R, 15, none⟩ = false := R1.frozen 15
  have R2 : Box (stN w R 1 [.int .i64 y0, .int .i64 y1, .int .i64 y2, .int .i64 y3, .int .i64 y4, .int .i64 y5, .int .i64 y6, .int .i64 y7, .int .i64 y8, .slice yp0 yl0 yq0, .slice yp1 yl1 yq1, .slice yp2 yl2 yq2, .int .i64 y9, .int .i64 y10, .bool yb]) R #[.int .i64 0, .int .i64 y0, .int .i64 y1, .int .i64 y2, .int .i64 y3, .int .i64 y4, .int .i64 y5, .int .i64 y6, .int .i64 y7, .int .i64 y8, .slice yp0 yl0 yq0, .slice yp1 yl1 yq1, .slice yp2 yl2 yq2, .int .i64 y9, .int .i64 y10, .bool yb] 34 := R1.stL [.int .i64 y0, .int .i64 y1, .int .i64 y2, .int .i64 y3, .int .i64 y4, .int .i64 y5, .int .i64 y6, .int .i64 y7, .int .i64 y8, .slice yp0 yl0 yq0, .slice yp1 yl1 yq1, .slice yp2 yl2 yq2, .int .i64 y9, .int .i64 y10, .bool yb] 1
  have C2' : ChgL [R] w (stN w R 1 [.int .i64 y0, .int .i64 y1, .int .i64 y2, .int .i64 y3, .int .i64 y4, .int .i64 y5, .int .i64 y6, .int .i64 y7, .int .i64 y8, .slice yp0 yl0 yq0, .slice yp1 yl1 yq1, .slice yp2 yl2 yq2, .int .i64 y9, .int .i64 y10, .bool yb]) := C1.trans ⟨(stN_rest R _ w 1).1, (stN_rest R _ w 1).2.1, (stN_rest R _ w 1).2.2, Nat.le_of_eq (stN_size R _ w 1).symm, fun b _ hb => stN_heap R b (fun hh => hb (by simp [hh])) _ w 1⟩
  clear R1 X1 C1  x_5 x_6 x_7 x_8 x_9 x_10 x_11 x_12 x_13 x_14 x_15 x_16 x_17 x_18 x_19
  go_wp2
  exact ⟨rfl, _, by cases c₀; simp_all, _, results_none rfl _ _ _, rfl, rfl, R2, C2'⟩
set_option maxHeartbeats 8000000 in
set_option maxRecDepth 20000 in
theorem tell_panic (u : TypeId) (pvv : Value) (R pv E : Nat) (l o m : Int) (y0 y1 y2 y3 y4 y5 y6 y7 y8 yp0 yl0 yq0 yp1 yl1 yq1 yp2 yl2 yq2 y9 y10 yb : _) (w : World) (hR : Box w R #[.int .i64 0, .int .i64 0, .int .i64 0, .int .i64 0, .int .i64 0, .int .i64 0, .int .i64 0, .int .i64 0, .int .i64 0, .int .i64 0, .slice none 0 0, .slice none 0 0, .slice none 0 0, .int .i64 0, .int .i64 0, .bool false] 34) (hp : w.cell? ⟨pv, 0, none⟩ = some (.pointer (some ⟨E, 0, none⟩))) (hX : Box w E #[.int .i32 l, .int .u32 0, .int .u32 o, .int .i32 m, .int .u32 0, .int .i64 y0, .int .i64 y1, .int .i64 y2, .int .i64 y3, .int .i64 y4, .int .i64 y5, .int .i64 y6, .int .i64 y7, .int .i64 y8, .slice yp0 yl0 yq0, .slice yp1 yl1 yq1, .slice yp2 yl2 yq2, .int .i64 y9, .int .i64 y10, .bool yb] 166) (hRE : R ≠ E) (hRp : R ≠ pv) :
    CallsD Tryz.prog 153 #[.pointer (some ⟨R, 0, none⟩), .pointer (some ⟨pv, 0, none⟩)] (.panicking [{ v := .iface u pvv, recovered := false }]) w fun e u' w' => e = .returned (.tuple #[]) ∧ u' = (.panicking [{ v := .iface u pvv, recovered := true }]) ∧ Box w' R #[.int .i64 9, .int .i64 y0, .int .i64 y1, .int .i64 y2, .int .i64 y3, .int .i64 y4, .int .i64 y5, .int .i64 y6, .int .i64 y7, .int .i64 y8, .slice yp0 yl0 yq0, .slice yp1 yl1 yq1, .slice yp2 yl2 yq2, .int .i64 y9, .int .i64 y10, .bool yb] 34 ∧ ChgL [R] w w' := by
  have x_5 : w.cell? ⟨E, 5, none⟩ = some (.int .i64 y0) := hX.cell 5
  have x_6 : w.cell? ⟨E, 6, none⟩ = some (.int .i64 y1) := hX.cell 6
  have x_7 : w.cell? ⟨E, 7, none⟩ = some (.int .i64 y2) := hX.cell 7
  have x_8 : w.cell? ⟨E, 8, none⟩ = some (.int .i64 y3) := hX.cell 8
  have x_9 : w.cell? ⟨E, 9, none⟩ = some (.int .i64 y4) := hX.cell 9
  have x_10 : w.cell? ⟨E, 10, none⟩ = some (.int .i64 y5) := hX.cell 10
  have x_11 : w.cell? ⟨E, 11, none⟩ = some (.int .i64 y6) := hX.cell 11
  have x_12 : w.cell? ⟨E, 12, none⟩ = some (.int .i64 y7) := hX.cell 12
  have x_13 : w.cell? ⟨E, 13, none⟩ = some (.int .i64 y8) := hX.cell 13
  have x_14 : w.cell? ⟨E, 14, none⟩ = some (.slice yp0 yl0 yq0) := hX.cell 14
  have x_15 : w.cell? ⟨E, 15, none⟩ = some (.slice yp1 yl1 yq1) := hX.cell 15
  have x_16 : w.cell? ⟨E, 16, none⟩ = some (.slice yp2 yl2 yq2) := hX.cell 16
  have x_17 : w.cell? ⟨E, 17, none⟩ = some (.int .i64 y9) := hX.cell 17
  have x_18 : w.cell? ⟨E, 18, none⟩ = some (.int .i64 y10) := hX.cell 18
  have x_19 : w.cell? ⟨E, 19, none⟩ = some (.bool yb) := hX.cell 19
  have R1 : Box (w.setCell ⟨R, 0, none⟩ (.int .i64 9)) R #[.int .i64 9, .int .i64 0, .int .i64 0, .int .i64 0, .int .i64 0, .int .i64 0, .int .i64 0, .int .i64 0, .int .i64 0, .int .i64 0, .slice none 0 0, .slice none 0 0, .slice none 0 0, .int .i64 0, .int .i64 0, .bool false] 34 := hR.setc 0 _
  have C1 : ChgL [R] w (w.setCell ⟨R, 0, none⟩ (.int .i64 9)) := (ChgL.refl _ _).st _ 0 _ (by simp)
  have X1 : Box (w.setCell ⟨R, 0, none⟩ (.int .i64 9)) E #[.int .i32 l, .int .u32 0, .int .u32 o, .int .i32 m, .int .u32 0, .int .i64 y0, .int .i64 y1, .int .i64 y2, .int .i64 y3, .int .i64 y4, .int .i64 y5, .int .i64 y6, .int .i64 y7, .int .i64 y8, .slice yp0 yl0 yq0, .slice yp1 yl1 yq1, .slice yp2 yl2 yq2, .int .i64 y9, .int .i64 y10, .bool yb] 166 := hX.seto 0 _ (fun h => hRE h.symm)
  have hp1 : (w.setCell ⟨R, 0, none⟩ (.int .i64 9)).cell? ⟨pv, 0, none⟩ = some (.pointer (some ⟨E, 0, none⟩)) := (World.cell?_setCell_other _ ⟨R, 0, none⟩ ⟨pv, 0, none⟩ _ (by simp [hRp])).trans hp
  have r0 : w.cell? ⟨R, 0, none⟩ = some (.int .i64 0) := hR.cell 0
  have rf0 : w.frozen? ⟨R, 0, none⟩ = false := hR.frozen 0
  refine callsD_of_wpS Tryz.func153 rfl fun c₀ cs hu => ?_
  apply wpS_seq
  apply wpS_seq
  apply wpS_region
  simp [wpOpsS, go_sem, recoverD, hu, Tryz.ntmps153, Exit.thenS]
  refine wpS_cond (t := true) (by simp [Act.eval, Array.replicate]) ?_
  simp only [if_true]
  apply wpS_region
  simp [wpOpsS, go_sem, r0, rf0, Exit.thenS]
  clear r0 rf0 hR hX hp
  refine wpS_of_wp ?_
  obtain ⟨W, hW⟩ : ∃ x, x = (w.setCell ⟨R, 0, none⟩ (.int .i64 9)) := ⟨_, rfl⟩
  rw [← hW] at R1 X1 hp1 C1 ⊢
  have e_5 : W.cell? ⟨E, 5, none⟩ = some (.int .i64 y0) := X1.cell 5
  have e_6 : W.cell? ⟨E, 6, none⟩ = some (.int .i64 y1) := X1.cell 6
  have e_7 : W.cell? ⟨E, 7, none⟩ = some (.int .i64 y2) := X1.cell 7
  have e_8 : W.cell? ⟨E, 8, none⟩ = some (.int .i64 y3) := X1.cell 8
  have e_9 : W.cell? ⟨E, 9, none⟩ = some (.int .i64 y4) := X1.cell 9
  have e_10 : W.cell? ⟨E, 10, none⟩ = some (.int .i64 y5) := X1.cell 10
  have e_11 : W.cell? ⟨E, 11, none⟩ = some (.int .i64 y6) := X1.cell 11
  have e_12 : W.cell? ⟨E, 12, none⟩ = some (.int .i64 y7) := X1.cell 12
  have e_13 : W.cell? ⟨E, 13, none⟩ = some (.int .i64 y8) := X1.cell 13
  have e_14 : W.cell? ⟨E, 14, none⟩ = some (.slice yp0 yl0 yq0) := X1.cell 14
  have e_15 : W.cell? ⟨E, 15, none⟩ = some (.slice yp1 yl1 yq1) := X1.cell 15
  have e_16 : W.cell? ⟨E, 16, none⟩ = some (.slice yp2 yl2 yq2) := X1.cell 16
  have e_17 : W.cell? ⟨E, 17, none⟩ = some (.int .i64 y9) := X1.cell 17
  have e_18 : W.cell? ⟨E, 18, none⟩ = some (.int .i64 y10) := X1.cell 18
  have e_19 : W.cell? ⟨E, 19, none⟩ = some (.bool yb) := X1.cell 19
  have r_1 : W.cell? ⟨R, 1, none⟩ = some (.int .i64 0) := R1.cell 1
  have rf_1 : W.frozen? ⟨R, 1, none⟩ = false := R1.frozen 1
  have r_2 : W.cell? ⟨R, 2, none⟩ = some (.int .i64 0) := R1.cell 2
  have rf_2 : W.frozen? ⟨R, 2, none⟩ = false := R1.frozen 2
  have r_3 : W.cell? ⟨R, 3, none⟩ = some (.int .i64 0) := R1.cell 3
  have rf_3 : W.frozen? ⟨R, 3, none⟩ = false := R1.frozen 3
  have r_4 : W.cell? ⟨R, 4, none⟩ = some (.int .i64 0) := R1.cell 4
  have rf_4 : W.frozen? ⟨R, 4, none⟩ = false := R1.frozen 4
  have r_5 : W.cell? ⟨R, 5, none⟩ = some (.int .i64 0) := R1.cell 5
  have rf_5 : W.frozen? ⟨R, 5, none⟩ = false := R1.frozen 5
  have r_6 : W.cell? ⟨R, 6, none⟩ = some (.int .i64 0) := R1.cell 6
  have rf_6 : W.frozen? ⟨R, 6, none⟩ = false := R1.frozen 6
  have r_7 : W.cell? ⟨R, 7, none⟩ = some (.int .i64 0) := R1.cell 7
  have rf_7 : W.frozen? ⟨R, 7, none⟩ = false := R1.frozen 7
  have r_8 : W.cell? ⟨R, 8, none⟩ = some (.int .i64 0) := R1.cell 8
  have rf_8 : W.frozen? ⟨R, 8, none⟩ = false := R1.frozen 8
  have r_9 : W.cell? ⟨R, 9, none⟩ = some (.int .i64 0) := R1.cell 9
  have rf_9 : W.frozen? ⟨R, 9, none⟩ = false := R1.frozen 9
  have r_10 : W.cell? ⟨R, 10, none⟩ = some (.slice none 0 0) := R1.cell 10
  have rf_10 : W.frozen? ⟨R, 10, none⟩ = false := R1.frozen 10
  have r_11 : W.cell? ⟨R, 11, none⟩ = some (.slice none 0 0) := R1.cell 11
  have rf_11 : W.frozen? ⟨R, 11, none⟩ = false := R1.frozen 11
  have r_12 : W.cell? ⟨R, 12, none⟩ = some (.slice none 0 0) := R1.cell 12
  have rf_12 : W.frozen? ⟨R, 12, none⟩ = false := R1.frozen 12
  have r_13 : W.cell? ⟨R, 13, none⟩ = some (.int .i64 0) := R1.cell 13
  have rf_13 : W.frozen? ⟨R, 13, none⟩ = false := R1.frozen 13
  have r_14 : W.cell? ⟨R, 14, none⟩ = some (.int .i64 0) := R1.cell 14
  have rf_14 : W.frozen? ⟨R, 14, none⟩ = false := R1.frozen 14
  have r_15 : W.cell? ⟨R, 15, none⟩ = some (.bool false) := R1.cell 15
  have rf_15 : W.frozen? ⟨R, 15, none⟩ = false := R1.frozen 15
  have R2 : Box (stN W R 1 [.int .i64 y0, .int .i64 y1, .int .i64 y2, .int .i64 y3, .int .i64 y4, .int .i64 y5, .int .i64 y6, .int .i64 y7, .int .i64 y8, .slice yp0 yl0 yq0, .slice yp1 yl1 yq1, .slice yp2 yl2 yq2, .int .i64 y9, .int .i64 y10, .bool yb]) R #[.int .i64 9, .int .i64 y0, .int .i64 y1, .int .i64 y2, .int .i64 y3, .int .i64 y4, .int .i64 y5, .int .i64 y6, .int .i64 y7, .int .i64 y8, .slice yp0 yl0 yq0, .slice yp1 yl1 yq1, .slice yp2 yl2 yq2, .int .i64 y9, .int .i64 y10, .bool yb] 34 := R1.stL [.int .i64 y0, .int .i64 y1, .int .i64 y2, .int .i64 y3, .int .i64 y4, .int .i64 y5, .int .i64 y6, .int .i64 y7, .int .i64 y8, .slice yp0 yl0 yq0, .slice yp1 yl1 yq1, .slice yp2 yl2 yq2, .int .i64 y9, .int .i64 y10, .bool yb] 1
  have C2' : ChgL [R] w (stN W R 1 [.int .i64 y0, .int .i64 y1, .int .i64 y2, .int .i64 y3, .int .i64 y4, .int .i64 y5, .int .i64 y6, .int .i64 y7, .int .i64 y8, .slice yp0 yl0 yq0, .slice yp1 yl1 yq1, .slice yp2 yl2 yq2, .int .i64 y9, .int .i64 y10, .bool yb]) := C1.trans ⟨(stN_rest R _ W 1).1, (stN_rest R _ W 1).2.1, (stN_rest R _ W 1).2.2, Nat.le_of_eq (stN_size R _ W 1).symm, fun b _ hb => stN_heap R b (fun hh => hb (by simp [hh])) _ W 1⟩
  clear R1 X1 C1 hW x_5 x_6 x_7 x_8 x_9 x_10 x_11 x_12 x_13 x_14 x_15 x_16 x_17 x_18 x_19
  go_wp2
  exact ⟨rfl, _, rfl, _, results_none rfl _ _ _, rfl, rfl, R2, C2'⟩
end Go.Proofs.YtfafbojaeedhfaaGreat
