/- withPower over carryOut's work. -/
import Derived.Test.YthdknhjaohhfiaaGreatZPlayrear
import Derived.Test.YthdknhjaohhfiaaGreatZPlayreaq
import Derived.Deep.DeepCutAuto
import Derived.Test.YthdknhjaohhfiaaGreatZPlayreaj
import Derived.Test.YthdknhjaohhfiaaGreatZPlayream
import Derived.BigQuiet
import Derived.Deep.QuietTactic
import Derived.Test.YthdknhjaohhfiaaGreatZPlayreap
import Derived.Test.YthdknhjaohhfiaaGreatZPlayrean
import Derived.Test.YthdknhjaohhfiaaGreatZPlayreak
import Derived.Test.YthdknhjaohhfiaaGreatZPlayreal
import Derived.Test.YthdknhjaohhfiaaGreatZPlayreao
namespace Go.Proofs.YthdknhjaohhfiaaGreat
open Go.RowKit F256
set_option linter.unusedVariables false
set_option linter.unusedSimpArgs false
set_option maxHeartbeats 16000000 in
set_option maxRecDepth 100000 in
theorem power_carry (d : WorldD) (cs : List Value) (hi tb cb : Nat) (w : World) (h : layWorld.rd w hi d cs) (hhi : hi ≤ w.heap.size) (hsz : szWorldD d ≤ 1048576) (o : Outc) (hcb : Box w cb #[.int .i64 0] 2)
    (HW : ∀ (W3 : World) (E : Nat) (K : List Nat), Below w.heap.size w W3 → w.heap.size ≤ E → (∀ b, b ∈ K → w.heap.size ≤ b) → EncB W3 E d K → Calls Tryz.prog 90 #[.pointer (some ⟨E, 0, none⟩), .pointer (some ⟨tb, 0, none⟩), .pointer (some ⟨cb, 0, none⟩)] W3 (CarP o E cb W3 K)) :
    Calls Tryz.prog 89 #[.agg cs.toArray, .func (.func 90) #[] #[.pointer (some ⟨tb, 0, none⟩), .pointer (some ⟨cb, 0, none⟩)]] w (PowP o cb w) := by
  obtain ⟨v0, v1, v2, v3, v4, v5, v6, v7, v8, vp0, vl0, vq0, vp1, vl1, vq1, vp2, vl2, vq2, v9, v10, vb, rfl⟩ := world15 h
  have hmf : ∀ (fn : Fn) (first cap : Array Value) (w : World), (Instr.makeFunc fn first cap).run Tryz.prog w = .ok (.func fn first cap) w := fun _ _ _ _ => rfl
  have hcl := hcb.lt
  have T0 := two_newb w #[.int .i64 v0, .int .i64 v1, .int .i64 v2, .int .i64 v3, .int .i64 v4, .int .i64 v5, .int .i64 v6, .int .i64 v7, .int .i64 v8, .slice vp0 vl0 vq0, .slice vp1 vl1 vq1, .slice vp2 vl2 vq2, .int .i64 v9, .int .i64 v10, .bool vb] #[.int .i64 0, .int .i64 0, .int .i64 0, .int .i64 0, .int .i64 0, .int .i64 0, .int .i64 0, .int .i64 0, .int .i64 0, .int .i64 0, .slice none 0 0, .slice none 0 0, .slice none 0 0, .int .i64 0, .int .i64 0, .bool false] 38 40
  have CC := fun w' (hb : Below w.heap.size w w') => copyWorld_is [.int .i64 v0, .int .i64 v1, .int .i64 v2, .int .i64 v3, .int .i64 v4, .int .i64 v5, .int .i64 v6, .int .i64 v7, .int .i64 v8, .slice vp0 vl0 vq0, .slice vp1 vl1 vq1, .slice vp2 vl2 vq2, .int .i64 v9, .int .i64 v10, .bool vb] d hi w' (layWorld.rd_below h hb hhi) (Nat.le_trans hhi hb.size) hsz
  clear h
  go_enter_defers Tryz.func89, Tryz.ntmps89
  go_wp2_with (refine wp_loadBox 38 (.tmp 2) rfl rfl (w.heap.size) rfl (cs := [.int .i64 v0, .int .i64 v1, .int .i64 v2, .int .i64 v3, .int .i64 v4, .int .i64 v5, .int .i64 v6, .int .i64 v7, .int .i64 v8, .slice vp0 vl0 vq0, .slice vp1 vl1 vq1, .slice vp2 vl2 vq2, .int .i64 v9, .int .i64 v10, .bool vb]) (T0.b1) Tryz.underlying38 size_W rfl ?_)
  refine (CC _ T0.bel).mono ?_
  rintro e w2 ⟨c2, rfl, o2, b2⟩
  obtain ⟨u0, u1, u2, u3, u4, u5, u6, u7, u8, up0, ul0, uq0, up1, ul1, uq1, up2, ul2, uq2, u9, u10, ub, rfl⟩ := world15O o2
  have T2 := T0.call b2
  have z2 : w.heap.size + 1 < w2.heap.size := T2.b2.lt
  have TB := two_newb w2 #[.int .i32 0, .int .u32 0, .int .u32 0, .int .i32 0, .int .u32 0, .int .i64 u0, .int .i64 u1, .int .i64 u2, .int .i64 u3, .int .i64 u4, .int .i64 u5, .int .i64 u6, .int .i64 u7, .int .i64 u8, .slice up0 ul0 uq0, .slice up1 ul1 uq1, .slice up2 ul2 uq2, .int .i64 u9, .int .i64 u10, .bool ub] #[.pointer (some ⟨w2.heap.size, 0, none⟩)] 142 126
  obtain ⟨K, hk1, hk2, hk3⟩ := o2
  have hkz : ∀ b, b ∈ K → w.heap.size ≤ b ∧ b < w2.heap.size := fun b hb => ⟨by have := hk3 b hb; simp at this; omega, (hk3 b hb).2⟩
  go_upto_region 2 with fail
  obtain ⟨W3, hW3⟩ : ∃ x, x = (w2.alloc (.cells #[.int .i32 0, .int .u32 0, .int .u32 0, .int .i32 0, .int .u32 0, .int .i64 u0, .int .i64 u1, .int .i64 u2, .int .i64 u3, .int .i64 u4, .int .i64 u5, .int .i64 u6, .int .i64 u7, .int .i64 u8, .slice up0 ul0 uq0, .slice up1 ul1 uq1, .slice up2 ul2 uq2, .int .i64 u9, .int .i64 u10, .bool ub] 142)).alloc (.cells #[.pointer (some ⟨w2.heap.size, 0, none⟩)] 126) := ⟨_, rfl⟩
  rw [← hW3] at TB ⊢
  clear hW3
  have T3 := T2.call TB.bel
  have O3 : EncB W3 w2.heap.size d K := ⟨[.int .i64 u0, .int .i64 u1, .int .i64 u2, .int .i64 u3, .int .i64 u4, .int .i64 u5, .int .i64 u6, .int .i64 u7, .int .i64 u8, .slice up0 ul0 uq0, .slice up1 ul1 uq1, .slice up2 ul2 uq2, .int .i64 u9, .int .i64 u10, .bool ub], TB.b1, Lay.own_kept _ hk1 (fun b hb => TB.bel.block b (hkz b hb).2), hk2, fun hb => by have := hkz _ hb; omega⟩
  have z3 : w2.heap.size + 1 < W3.heap.size := TB.b2.lt
  have x5 : W3.cell? ⟨w2.heap.size + 1, 0, none⟩ = some (.pointer (some ⟨w2.heap.size, 0, none⟩)) := TB.b2.cell 0
  have CB3 := hcb.below T3.bel hcl
  have CF0 := HW W3 w2.heap.size K T3.bel (by omega) (fun b hb => (hkz b hb).1) O3
  have hRn : w.heap.size + 1 ∉ K := fun hm => by have := hk3 _ hm; have := T0.b2.lt; omega
  clear HW hcb CC
  cases o with
  | cut d2 =>
    have CF := CF0.mono (R' := fun e w' => e = .panicked [{ v := .iface 201 (.agg #[]), recovered := false }] ∧ ∃ y0 y1 y2 y3 y4 y5 y6 y7 y8 yp0 yl0 yq0 yp1 yl1 yq1 yp2 yl2 yq2 y9 y10 yb K', Box w' w2.heap.size #[.int .i32 0, .int .u32 0, .int .u32 1, .int .i32 0, .int .u32 0, .int .i64 y0, .int .i64 y1, .int .i64 y2, .int .i64 y3, .int .i64 y4, .int .i64 y5, .int .i64 y6, .int .i64 y7, .int .i64 y8, .slice yp0 yl0 yq0, .slice yp1 yl1 yq1, .slice yp2 yl2 yq2, .int .i64 y9, .int .i64 y10, .bool yb] 142 ∧ EncO w' w2.heap.size (cutW d2) [.int .i64 y0, .int .i64 y1, .int .i64 y2, .int .i64 y3, .int .i64 y4, .int .i64 y5, .int .i64 y6, .int .i64 y7, .int .i64 y8, .slice yp0 yl0 yq0, .slice yp1 yl1 yq1, .slice yp2 yl2 yq2, .int .i64 y9, .int .i64 y10, .bool yb] K' ∧ (∀ b, b ∈ K' → b ∈ K ∨ W3.heap.size ≤ b) ∧ ChgL (w2.heap.size :: K) W3 w') (fun e w' ⟨he, K', ⟨cs', hX', hO'⟩, hs', hC'⟩ => by
      obtain ⟨y0, y1, y2, y3, y4, y5, y6, y7, y8, yp0, yl0, yq0, yp1, yl1, yq1, yp2, yl2, yq2, y9, y10, yb, rfl⟩ := world15L hO'.own
      exact ⟨he, y0, y1, y2, y3, y4, y5, y6, y7, y8, yp0, yl0, yq0, yp1, yl1, yq1, yp2, yl2, yq2, y9, y10, yb, K', hX', hO', hs', hC'⟩)
    clear CF0
    go_wp2_with (go_at_call 90; refine CF.mono ?_; rintro e w5 ⟨rfl, y0, y1, y2, y3, y4, y5, y6, y7, y8, yp0, yl0, yq0, yp1, yl1, yq1, yp2, yl2, yq2, y9, y10, yb, K5, X5, O5, s5, C5⟩)
    have nin : ∀ x, x < w2.heap.size → x ∉ K → x ∉ w2.heap.size :: K := fun x h1 h2 hm => by
      rcases List.mem_cons.1 hm with h | h
      · omega
      · exact h2 h
    have hR5 := T3.b2.chgl C5 (nin _ z2 hRn)
    have P5 := TB.b2.chgl C5 (fun hm => by
      rcases List.mem_cons.1 hm with h | h
      · omega
      · have := hkz _ h; omega)
    have CB5 := CB3.chgl C5 (nin _ (by omega) (fun hm => by have := hkz _ hm; omega))
    refine leaves_cons (f := 137) (args := #[.pointer (some ⟨w.heap.size + 1, 0, none⟩), .pointer (some ⟨w2.heap.size + 1, 0, none⟩)]) (by simp) (by simp [go_sem]) ?_
    refine (tell_panic _ _ (w.heap.size + 1) (w2.heap.size + 1) w2.heap.size 0 1 0 _ _ _ _ _ _ _ _ _ _ _ _ _ _ _ _ _ _ _ _ _ _ hR5 (P5.cell 0) X5 (by omega) (by omega)).mono ?_
    rintro e u' w7 ⟨rfl, rfl, R7, C7⟩
    simp only [settle, Leaves, List.dropWhile]
    have z5 := C5.size
    have z7 := C7.size
    have h5 := fun b hb => layWorld.own_lt O5.own b hb
    have hK5 : ∀ b, b ∈ K5 → w.heap.size ≤ b ∧ b ≠ w.heap.size + 1 := fun b hb => by
      rcases s5 b hb with h | h
      · exact ⟨(hkz b h).1, fun e => hRn (e ▸ h)⟩
      · omega
    have B5 : Below w.heap.size w w5 := T3.bel.trans (C5.bel (fun b hb => by
      rcases List.mem_cons.1 hb with h | h
      · omega
      · exact (hkz b h).1) T3.bel.size)
    have B7 : Below w.heap.size w w7 := B5.trans (C7.bel (fun b hb => by simp at hb; omega) B5.size)
    have CB7 := CB5.chgl C7 (by simp; omega)
    have C7w : ChgL [cb] w w7 := ChgL.of_below B7
    have O7 : OwnT layWorld w7 w.heap.size w7.heap.size (cutW d2) [.int .i64 y0, .int .i64 y1, .int .i64 y2, .int .i64 y3, .int .i64 y4, .int .i64 y5, .int .i64 y6, .int .i64 y7, .int .i64 y8, .slice yp0 yl0 yq0, .slice yp1 yl1 yq1, .slice yp2 yl2 yq2, .int .i64 y9, .int .i64 y10, .bool yb] := ⟨K5, Lay.own_chgL _ O5.own C7 (fun b hb hm => by simp at hm; exact (hK5 b hb).2 hm), O5.nd, fun b hb => ⟨(hK5 b hb).1, by have := h5 b hb; omega⟩⟩
    refine ⟨_, results_cell_row Tryz.results89 _ w7 (w.heap.size + 1) 40 #[.int .i64 9, .int .i64 y0, .int .i64 y1, .int .i64 y2, .int .i64 y3, .int .i64 y4, .int .i64 y5, .int .i64 y6, .int .i64 y7, .int .i64 y8, .slice yp0 yl0 yq0, .slice yp1 yl1 yq1, .slice yp2 yl2 yq2, .int .i64 y9, .int .i64 y10, .bool yb] (0, 0) (.struct _) rfl R7 Tryz.underlying40 rfl (by rw [size_WR]; rfl), ?_⟩
    exact ⟨[.int .i64 9, .int .i64 y0, .int .i64 y1, .int .i64 y2, .int .i64 y3, .int .i64 y4, .int .i64 y5, .int .i64 y6, .int .i64 y7, .int .i64 y8, .slice yp0 yl0 yq0, .slice yp1 yl1 yq1, .slice yp2 yl2 yq2, .int .i64 y9, .int .i64 y10, .bool yb], rfl, own_resOf 9 (by decide) O7, CB7, C7w⟩
  | done c d2 =>
    have CF := CF0.mono (R' := fun e w' => e = .returned (.tuple #[]) ∧ ∃ y0 y1 y2 y3 y4 y5 y6 y7 y8 yp0 yl0 yq0 yp1 yl1 yq1 yp2 yl2 yq2 y9 y10 yb K', Box w' w2.heap.size #[.int .i32 0, .int .u32 0, .int .u32 0, .int .i32 0, .int .u32 0, .int .i64 y0, .int .i64 y1, .int .i64 y2, .int .i64 y3, .int .i64 y4, .int .i64 y5, .int .i64 y6, .int .i64 y7, .int .i64 y8, .slice yp0 yl0 yq0, .slice yp1 yl1 yq1, .slice yp2 yl2 yq2, .int .i64 y9, .int .i64 y10, .bool yb] 142 ∧ EncO w' w2.heap.size d2 [.int .i64 y0, .int .i64 y1, .int .i64 y2, .int .i64 y3, .int .i64 y4, .int .i64 y5, .int .i64 y6, .int .i64 y7, .int .i64 y8, .slice yp0 yl0 yq0, .slice yp1 yl1 yq1, .slice yp2 yl2 yq2, .int .i64 y9, .int .i64 y10, .bool yb] K' ∧ (∀ b, b ∈ K' → b ∈ K ∨ W3.heap.size ≤ b) ∧ Box w' cb #[.int .i64 c] 2 ∧ ChgL (w2.heap.size :: cb :: K) W3 w') (fun e w' ⟨he, K', ⟨cs', hX', hO'⟩, hs', hb', hC'⟩ => by
      obtain ⟨y0, y1, y2, y3, y4, y5, y6, y7, y8, yp0, yl0, yq0, yp1, yl1, yq1, yp2, yl2, yq2, y9, y10, yb, rfl⟩ := world15L hO'.own
      exact ⟨he, y0, y1, y2, y3, y4, y5, y6, y7, y8, yp0, yl0, yq0, yp1, yl1, yq1, yp2, yl2, yq2, y9, y10, yb, K', hX', hO', hs', hb', hC'⟩)
    have nin : ∀ x, x ≠ w2.heap.size → x ≠ cb → x ∉ K → x ∉ w2.heap.size :: cb :: K := fun x h1 h2 h3 hm => by
      rcases List.mem_cons.1 hm with h | h
      · exact h1 h
      · rcases List.mem_cons.1 h with h | h
        · exact h2 h
        · exact h3 h
    have hRK := nin (w.heap.size + 1) (by omega) (by omega) hRn
    clear CF0
    go_wp2_with (first | (go_at_call 90; refine CF.mono ?_; rintro e w5 ⟨rfl, y0, y1, y2, y3, y4, y5, y6, y7, y8, yp0, yl0, yq0, yp1, yl1, yq1, yp2, yl2, yq2, y9, y10, yb, K5, X5, O5, s5, CB5, C5⟩; have hR5 := T3.b2.chgl C5 hRK) | (refine wp_loadBox 40 (.tmp 4) rfl rfl (w.heap.size + 1) rfl (cs := [.int .i64 0, .int .i64 0, .int .i64 0, .int .i64 0, .int .i64 0, .int .i64 0, .int .i64 0, .int .i64 0, .int .i64 0, .int .i64 0, .slice none 0 0, .slice none 0 0, .slice none 0 0, .int .i64 0, .int .i64 0, .bool false]) (hR5) Tryz.underlying40 size_WR rfl ?_) | (refine wp_storeBox 40 _ _ rfl rfl (w.heap.size + 1) rfl (cs := [.int .i64 0, .int .i64 0, .int .i64 0, .int .i64 0, .int .i64 0, .int .i64 0, .int .i64 0, .int .i64 0, .int .i64 0, .int .i64 0, .slice none 0 0, .slice none 0 0, .slice none 0 0, .int .i64 0, .int .i64 0, .bool false]) (old := [.int .i64 0, .int .i64 0, .int .i64 0, .int .i64 0, .int .i64 0, .int .i64 0, .int .i64 0, .int .i64 0, .int .i64 0, .int .i64 0, .slice none 0 0, .slice none 0 0, .slice none 0 0, .int .i64 0, .int .i64 0, .bool false]) rfl hR5 size_WR rfl rfl (code_one 0 (by decide) w) ?_; intro w6 R6 C6 z6))
    have z5 := C5.size
    have P5 := TB.b2.chgl C5 (nin _ (by omega) (by omega) (fun hm => by have := hkz _ hm; omega))
    have P6 := P5.chgl C6 (by simp; omega)
    have X6 := X5.chgl C6 (by simp; omega)
    refine leaves_cons (f := 137) (args := #[.pointer (some ⟨w.heap.size + 1, 0, none⟩), .pointer (some ⟨w2.heap.size + 1, 0, none⟩)]) (by simp) (by simp [go_sem]) ?_
    refine (tell_idle (w.heap.size + 1) (w2.heap.size + 1) w2.heap.size 0 0 0 _ _ _ _ _ _ _ _ _ _ _ _ _ _ _ _ _ _ _ _ _ _ R6 (P6.cell 0) X6 (by omega) (by omega)).mono ?_
    rintro e u' w7 ⟨rfl, rfl, R7, C7⟩
    simp only [settle, Leaves]
    have z7 := C7.size
    have h5 := fun b hb => layWorld.own_lt O5.own b hb
    have hK5 : ∀ b, b ∈ K5 → w.heap.size ≤ b ∧ b ≠ w.heap.size + 1 := fun b hb => by
      rcases s5 b hb with h | h
      · exact ⟨(hkz b h).1, fun e => hRn (e ▸ h)⟩
      · omega
    have C5w : ChgL [cb] w w5 := ⟨C5.os.trans T3.bel.os, C5.tape.trans T3.bel.tape, C5.output.trans T3.bel.output, Nat.le_trans T3.bel.size z5, fun b hb hm => by
      refine (C5.block b (Nat.lt_of_lt_of_le hb T3.bel.size) (nin b (by omega) (fun h => hm (by simp [h])) (fun h => by have := hkz b h; omega))).trans (T3.bel.block b hb)⟩
    have C67 : ChgL [w.heap.size + 1] w5 w7 := C6.trans C7
    have C7w : ChgL [cb] w w7 := ⟨C67.os.trans C5w.os, C67.tape.trans C5w.tape, C67.output.trans C5w.output, Nat.le_trans C5w.size C67.size, fun b hb hm => (C67.block b (Nat.lt_of_lt_of_le hb C5w.size) (by simp; omega)).trans (C5w.block b hb hm)⟩
    have CB7 := CB5.chgl C67 (by simp; omega)
    have O7 : OwnT layWorld w7 w.heap.size w7.heap.size d2 [.int .i64 y0, .int .i64 y1, .int .i64 y2, .int .i64 y3, .int .i64 y4, .int .i64 y5, .int .i64 y6, .int .i64 y7, .int .i64 y8, .slice yp0 yl0 yq0, .slice yp1 yl1 yq1, .slice yp2 yl2 yq2, .int .i64 y9, .int .i64 y10, .bool yb] := ⟨K5, Lay.own_chgL _ O5.own C67 (fun b hb hm => by simp at hm; exact (hK5 b hb).2 hm), O5.nd, fun b hb => ⟨(hK5 b hb).1, by have := h5 b hb; have := C67.size; omega⟩⟩
    refine ⟨_, results_cell_row Tryz.results89 _ w7 (w.heap.size + 1) 40 #[.int .i64 0, .int .i64 y0, .int .i64 y1, .int .i64 y2, .int .i64 y3, .int .i64 y4, .int .i64 y5, .int .i64 y6, .int .i64 y7, .int .i64 y8, .slice yp0 yl0 yq0, .slice yp1 yl1 yq1, .slice yp2 yl2 yq2, .int .i64 y9, .int .i64 y10, .bool yb] (0, 0) (.struct _) rfl R7 Tryz.underlying40 rfl (by rw [size_WR]; rfl), ?_⟩
    exact ⟨[.int .i64 0, .int .i64 y0, .int .i64 y1, .int .i64 y2, .int .i64 y3, .int .i64 y4, .int .i64 y5, .int .i64 y6, .int .i64 y7, .int .i64 y8, .slice yp0 yl0 yq0, .slice yp1 yl1 yq1, .slice yp2 yl2 yq2, .int .i64 y9, .int .i64 y10, .bool yb], rfl, own_resOf 0 (by decide) O7, CB7, C7w⟩
end Go.Proofs.YthdknhjaohhfiaaGreat

namespace Go.Proofs.YthdknhjaohhfiaaGreat
open Go.RowKit F256
set_option linter.unusedVariables false
set_option linter.unusedSimpArgs false
def Outc.final : Outc → WorldResultD
  | .done c d => if c = 0 then ⟨0, d⟩ else ⟨c, zeroW⟩
  | .cut d => ⟨9, cutW d⟩
theorem info_WRc : (Tryz.prog.info? 40).map (fun i => (i.zero.map (·.cells), i.size)) = some (some #[.int .i64 0, .int .i64 0, .int .i64 0, .int .i64 0, .int .i64 0, .int .i64 0, .int .i64 0, .int .i64 0, .int .i64 0, .int .i64 0, .slice none 0 0, .slice none 0 0, .slice none 0 0, .int .i64 0, .int .i64 0, .bool false], 16) := by kernel_rfl
theorem wres16c {w : World} {lo hi : Nat} {q : WorldResultD} {cs : List Value} (h : OwnT layWorldResult w lo hi q cs) : ∃ r0 y0 y1 y2 y3 y4 y5 y6 y7 y8 yp0 yl0 yq0 yp1 yl1 yq1 yp2 yl2 yq2 y9 y10 yb, cs = [.int .i64 r0, .int .i64 y0, .int .i64 y1, .int .i64 y2, .int .i64 y3, .int .i64 y4, .int .i64 y5, .int .i64 y6, .int .i64 y7, .int .i64 y8, .slice yp0 yl0 yq0, .slice yp1 yl1 yq1, .slice yp2 yl2 yq2, .int .i64 y9, .int .i64 y10, .bool yb] := by
  obtain ⟨M, h1, _⟩ := h
  obtain ⟨c, d', K1, M1, rfl, _, ⟨rfl, _⟩, h2⟩ := h1
  obtain ⟨y0, y1, y2, y3, y4, y5, y6, y7, y8, yp0, yl0, yq0, yp1, yl1, yq1, yp2, yl2, yq2, y9, y10, yb, rfl⟩ := world15L h2
  exact ⟨_, y0, y1, y2, y3, y4, y5, y6, y7, y8, yp0, yl0, yq0, yp1, yl1, yq1, yp2, yl2, yq2, y9, y10, yb, rfl⟩
set_option maxHeartbeats 16000000 in
set_option maxRecDepth 100000 in
theorem carryOut_any (d : WorldD) (cs : List Value) (hi : Nat) (F : Nat → Nat) (caps : Nat → Array Value) (f : Nat → WorldD → Outc) (fit : Nat → WorldD → Prop) (n b off cap : Nat) (w : World) (h : layWorld.rd w hi d cs) (hhi : hi ≤ w.heap.size) (hsz : szWorldD d ≤ 1048576)
    (hT : ∀ i, i < n → TaskV (F i) (caps i) (f i) (fit i) w.heap.size w) (hc : ∀ i, i < n → w.cell? ⟨b, off + i, none⟩ = some (.func (.func (F i)) #[] (caps i))) (hb : b < w.heap.size) (hn : n ≤ 1000000) (hf : FitAll f fit n 0 d) (hco : -9223372036854775808 ≤ (runO f n 0 d).code ∧ (runO f n 0 d).code ≤ 9223372036854775807) :
    Calls Tryz.prog 40 #[.agg cs.toArray, .slice (some ⟨b, off, none⟩) n cap] w fun e w' => ∃ cs', e = .returned (.agg cs'.toArray) ∧ OwnT layWorldResult w' w.heap.size w'.heap.size (runO f n 0 d).final cs' ∧ Below w.heap.size w w' := by
  obtain ⟨v0, v1, v2, v3, v4, v5, v6, v7, v8, vp0, vl0, vq0, vp1, vl1, vq1, vp2, vl2, vq2, v9, v10, vb, rfl⟩ := world15 h
  have hmf : ∀ (fn : Fn) (first cap : Array Value) (w : World), (Instr.makeFunc fn first cap).run Tryz.prog w = .ok (.func fn first cap) w := fun _ _ _ _ => rfl
  have T0 := three_newb w #[.int .i64 v0, .int .i64 v1, .int .i64 v2, .int .i64 v3, .int .i64 v4, .int .i64 v5, .int .i64 v6, .int .i64 v7, .int .i64 v8, .slice vp0 vl0 vq0, .slice vp1 vl1 vq1, .slice vp2 vl2 vq2, .int .i64 v9, .int .i64 v10, .bool vb] #[.slice (some ⟨b, off, none⟩) n cap] #[.int .i64 0, .int .i64 0, .int .i64 0, .int .i64 0, .int .i64 0, .int .i64 0, .int .i64 0, .int .i64 0, .int .i64 0, .int .i64 0, .slice none 0 0, .slice none 0 0, .slice none 0 0, .int .i64 0, .int .i64 0, .bool false] 38 124 40
  have HRD : Hid (layWorld.rd w hi d [.int .i64 v0, .int .i64 v1, .int .i64 v2, .int .i64 v3, .int .i64 v4, .int .i64 v5, .int .i64 v6, .int .i64 v7, .int .i64 v8, .slice vp0 vl0 vq0, .slice vp1 vl1 vq1, .slice vp2 vl2 vq2, .int .i64 v9, .int .i64 v10, .bool vb]) := h
  clear h
  obtain ⟨oc, hoc⟩ : ∃ x, x = runO f n 0 d := ⟨_, rfl⟩
  rw [← hoc] at hco ⊢
  go_enter Tryz.func40, Tryz.ntmps40
  go_upto_region 1 with fail
  obtain ⟨W1, hW1⟩ : ∃ x, x = (((w.alloc (.cells #[.int .i64 v0, .int .i64 v1, .int .i64 v2, .int .i64 v3, .int .i64 v4, .int .i64 v5, .int .i64 v6, .int .i64 v7, .int .i64 v8, .slice vp0 vl0 vq0, .slice vp1 vl1 vq1, .slice vp2 vl2 vq2, .int .i64 v9, .int .i64 v10, .bool vb] 38)).alloc (.cells #[.slice (some ⟨b, off, none⟩) n cap] 124)).alloc (.cells #[.int .i64 0, .int .i64 0, .int .i64 0, .int .i64 0, .int .i64 0, .int .i64 0, .int .i64 0, .int .i64 0, .int .i64 0, .int .i64 0, .slice none 0 0, .slice none 0 0, .slice none 0 0, .int .i64 0, .int .i64 0, .bool false] 40)) := ⟨_, rfl⟩
  rw [← hW1] at T0 ⊢
  have z1 : W1.heap.size = w.heap.size + 1 + 1 + 1 := by rw [hW1]; simp
  clear hW1
  have XC : Box (W1.alloc (.cells #[.int .i64 0] 2)) W1.heap.size #[.int .i64 0] 2 := box_new _ _ _
  have bC : Below W1.heap.size W1 (W1.alloc (.cells #[.int .i64 0] 2)) := (Below.refl _ _).alloc (Nat.le_refl _) _
  have T1 := T0.call bC
  go_upto_region 2 with fail
  obtain ⟨W2, hW2⟩ : ∃ x, x = W1.alloc (.cells #[.int .i64 0] 2) := ⟨_, rfl⟩
  rw [← hW2] at XC bC T1 ⊢
  have z2 : W2.heap.size = w.heap.size + 1 + 1 + 1 + 1 := by rw [hW2]; simp [z1]
  clear hW2 T0 bC
  rw [z1] at XC
  have bW : Below w.heap.size w W2 := T1.bel
  have CP := power_carry d [.int .i64 v0, .int .i64 v1, .int .i64 v2, .int .i64 v3, .int .i64 v4, .int .i64 v5, .int .i64 v6, .int .i64 v7, .int .i64 v8, .slice vp0 vl0 vq0, .slice vp1 vl1 vq1, .slice vp2 vl2 vq2, .int .i64 v9, .int .i64 v10, .bool vb] hi (w.heap.size + 1) (w.heap.size + 1 + 1 + 1) W2 (layWorld.rd_below HRD.out bW hhi) (by omega) hsz (runO f n 0 d) XC (fun W3 E K hB hE hK hX => by
    have b3 : Below w.heap.size w W3 := bW.trans (hB.mono (by omega))
    exact carryWork_any F caps f fit w.heap.size n b off cap (w.heap.size + 1) (w.heap.size + 1 + 1 + 1) W3 E d K (fun i hi => (hT i hi).later b3 (Nat.le_refl _)) (fun i hi => (b3.cell (p := ⟨b, off + i, none⟩) hb).trans (hc i hi)) (by have := b3.size; omega) ⟨by omega, fun hm => by have := hK b hm; omega⟩ (by omega) (fun x hx => by have := hK x hx; omega) hn hX hf
      ((hB.cell (p := ⟨w.heap.size + 1, 0, none⟩) (by show w.heap.size + 1 < _; omega)).trans (T1.b2.cell 0)) (XC.below hB (by omega)) ⟨by omega, fun hm => by have := hK _ hm; omega⟩)
  rw [← hoc] at CP
  have HCO : Hid (-9223372036854775808 ≤ oc.code ∧ oc.code ≤ 9223372036854775807) := hco
  clear hT hc hf hoc hco
  have CQ := CP.mono (R' := fun e w' => ∃ r0 y0 y1 y2 y3 y4 y5 y6 y7 y8 yp0 yl0 yq0 yp1 yl1 yq1 yp2 yl2 yq2 y9 y10 yb, e = .returned (.agg #[.int .i64 r0, .int .i64 y0, .int .i64 y1, .int .i64 y2, .int .i64 y3, .int .i64 y4, .int .i64 y5, .int .i64 y6, .int .i64 y7, .int .i64 y8, .slice yp0 yl0 yq0, .slice yp1 yl1 yq1, .slice yp2 yl2 yq2, .int .i64 y9, .int .i64 y10, .bool yb]) ∧ OwnT layWorldResult w' W2.heap.size w'.heap.size oc.told [.int .i64 r0, .int .i64 y0, .int .i64 y1, .int .i64 y2, .int .i64 y3, .int .i64 y4, .int .i64 y5, .int .i64 y6, .int .i64 y7, .int .i64 y8, .slice yp0 yl0 yq0, .slice yp1 yl1 yq1, .slice yp2 yl2 yq2, .int .i64 y9, .int .i64 y10, .bool yb] ∧ Box w' (w.heap.size + 1 + 1 + 1) #[.int .i64 oc.code] 2 ∧ ChgL [w.heap.size + 1 + 1 + 1] W2 w') (fun e w' ⟨cs', he, ho, hb', hc'⟩ => by
    obtain ⟨r0, y0, y1, y2, y3, y4, y5, y6, y7, y8, yp0, yl0, yq0, yp1, yl1, yq1, yp2, yl2, yq2, y9, y10, yb, rfl⟩ := wres16c ho
    exact ⟨r0, y0, y1, y2, y3, y4, y5, y6, y7, y8, yp0, yl0, yq0, yp1, yl1, yq1, yp2, yl2, yq2, y9, y10, yb, he, ho, hb', hc'⟩)
  clear CP
  obtain ⟨c, hcc⟩ : ∃ x, x = oc.code := ⟨_, rfl⟩
  have HCC : Hid (c = oc.code) := hcc
  rw [← hcc] at CQ
  clear hcc
  by_cases hc0 : c = 0
  · subst hc0
    have HT1 : Hid (Three w W2 #[.int .i64 v0, .int .i64 v1, .int .i64 v2, .int .i64 v3, .int .i64 v4, .int .i64 v5, .int .i64 v6, .int .i64 v7, .int .i64 v8, .slice vp0 vl0 vq0, .slice vp1 vl1 vq1, .slice vp2 vl2 vq2, .int .i64 v9, .int .i64 v10, .bool vb] #[.slice (some ⟨b, off, none⟩) n cap] #[.int .i64 0, .int .i64 0, .int .i64 0, .int .i64 0, .int .i64 0, .int .i64 0, .int .i64 0, .int .i64 0, .int .i64 0, .int .i64 0, .slice none 0 0, .slice none 0 0, .slice none 0 0, .int .i64 0, .int .i64 0, .bool false] 38 124 40) := T1
    go_wp2_with (first | (refine wp_loadBox 38 (.tmp 2) rfl rfl (w.heap.size) rfl (cs := [.int .i64 v0, .int .i64 v1, .int .i64 v2, .int .i64 v3, .int .i64 v4, .int .i64 v5, .int .i64 v6, .int .i64 v7, .int .i64 v8, .slice vp0 vl0 vq0, .slice vp1 vl1 vq1, .slice vp2 vl2 vq2, .int .i64 v9, .int .i64 v10, .bool vb]) (T1.b1) Tryz.underlying38 size_W rfl ?_) | (go_at_call 89; refine CQ.mono ?_; rintro e w5 ⟨r0, y0, y1, y2, y3, y4, y5, y6, y7, y8, yp0, yl0, yq0, yp1, yl1, yq1, yp2, yl2, yq2, y9, y10, yb, rfl, O5, CB5, C5⟩; have R5 := HT1.out.b3.chgl C5 (by simp)) | (refine wp_allocStore 40 6 (.tmp 9) [.int .i64 r0, .int .i64 y0, .int .i64 y1, .int .i64 y2, .int .i64 y3, .int .i64 y4, .int .i64 y5, .int .i64 y6, .int .i64 y7, .int .i64 y8, .slice yp0 yl0 yq0, .slice yp1 yl1 yq1, .slice yp2 yl2 yq2, .int .i64 y9, .int .i64 y10, .bool yb] _ 16 rfl rfl rfl rfl rfl rfl rfl rfl info_WRc rfl rfl O5.one ?_; have bN : Below w5.heap.size w5 (w5.alloc (.cells #[.int .i64 r0, .int .i64 y0, .int .i64 y1, .int .i64 y2, .int .i64 y3, .int .i64 y4, .int .i64 y5, .int .i64 y6, .int .i64 y7, .int .i64 y8, .slice yp0 yl0 yq0, .slice yp1 yl1 yq1, .slice yp2 yl2 yq2, .int .i64 y9, .int .i64 y10, .bool yb] 40)) := (Below.refl _ _).alloc (Nat.le_refl _) _; have XN : Box (w5.alloc (.cells #[.int .i64 r0, .int .i64 y0, .int .i64 y1, .int .i64 y2, .int .i64 y3, .int .i64 y4, .int .i64 y5, .int .i64 y6, .int .i64 y7, .int .i64 y8, .slice yp0 yl0 yq0, .slice yp1 yl1 yq1, .slice yp2 yl2 yq2, .int .i64 y9, .int .i64 y10, .bool yb] 40)) w5.heap.size #[.int .i64 r0, .int .i64 y0, .int .i64 y1, .int .i64 y2, .int .i64 y3, .int .i64 y4, .int .i64 y5, .int .i64 y6, .int .i64 y7, .int .i64 y8, .slice yp0 yl0 yq0, .slice yp1 yl1 yq1, .slice yp2 yl2 yq2, .int .i64 y9, .int .i64 y10, .bool yb] 40 := box_new _ _ _; have cx := (CB5.below bN CB5.lt).cell 0; have R6 := R5.below bN R5.lt) | (refine wp_loadBox 40 (.tmp 6) rfl rfl (w5.heap.size) rfl (cs := [.int .i64 r0, .int .i64 y0, .int .i64 y1, .int .i64 y2, .int .i64 y3, .int .i64 y4, .int .i64 y5, .int .i64 y6, .int .i64 y7, .int .i64 y8, .slice yp0 yl0 yq0, .slice yp1 yl1 yq1, .slice yp2 yl2 yq2, .int .i64 y9, .int .i64 y10, .bool yb]) (XN) Tryz.underlying40 size_WR rfl ?_) | (refine wp_storeBox 40 _ _ rfl rfl (w.heap.size + 1 + 1) rfl (cs := [.int .i64 r0, .int .i64 y0, .int .i64 y1, .int .i64 y2, .int .i64 y3, .int .i64 y4, .int .i64 y5, .int .i64 y6, .int .i64 y7, .int .i64 y8, .slice yp0 yl0 yq0, .slice yp1 yl1 yq1, .slice yp2 yl2 yq2, .int .i64 y9, .int .i64 y10, .bool yb]) (old := [.int .i64 0, .int .i64 0, .int .i64 0, .int .i64 0, .int .i64 0, .int .i64 0, .int .i64 0, .int .i64 0, .int .i64 0, .int .i64 0, .slice none 0 0, .slice none 0 0, .slice none 0 0, .int .i64 0, .int .i64 0, .bool false]) rfl R6 size_WR rfl rfl O5.one ?_; intro w9 X9 C9 z9))
    refine ret_box Tryz.results40 rfl X9 Tryz.underlying40 size_WR rfl rfl ?_
    have z5 := C5.size
    have zz := C9.size
    have e : oc.final = oc.told := by
      cases oc with
      | cut d2 => rfl
      | done c2 d2 => show (if c2 = 0 then _ else _) = _; rw [if_pos (show c2 = 0 from HCC.out.symm)]; rfl
    rw [e]
    have B5 : Below w.heap.size w w5 := bW.trans (C5.bel (fun x hx => by simp at hx; omega) (by omega))
    have BN : Below w.heap.size w (w5.alloc (.cells #[.int .i64 r0, .int .i64 y0, .int .i64 y1, .int .i64 y2, .int .i64 y3, .int .i64 y4, .int .i64 y5, .int .i64 y6, .int .i64 y7, .int .i64 y8, .slice yp0 yl0 yq0, .slice yp1 yl1 yq1, .slice yp2 yl2 yq2, .int .i64 y9, .int .i64 y10, .bool yb] 40)) := B5.trans (bN.mono B5.size)
    have sN : (w5.alloc (.cells #[.int .i64 r0, .int .i64 y0, .int .i64 y1, .int .i64 y2, .int .i64 y3, .int .i64 y4, .int .i64 y5, .int .i64 y6, .int .i64 y7, .int .i64 y8, .slice yp0 yl0 yq0, .slice yp1 yl1 yq1, .slice yp2 yl2 yq2, .int .i64 y9, .int .i64 y10, .bool yb] 40)).heap.size = w5.heap.size + 1 := by simp
    refine ⟨_, rfl, ?_, BN.trans (C9.bel (fun x hx => by simp at hx; omega) BN.size)⟩
    exact (((O5.below bN (Nat.le_refl _)).chgk C9 (fun x hx => by simp at hx; omega)).weaken (by omega) (by omega))
  · have hne : (c != 0) = true := by simpa using hc0
    have HNE : Hid (c ≠ 0) := hc0
    clear hc0
    have HT1 : Hid (Three w W2 #[.int .i64 v0, .int .i64 v1, .int .i64 v2, .int .i64 v3, .int .i64 v4, .int .i64 v5, .int .i64 v6, .int .i64 v7, .int .i64 v8, .slice vp0 vl0 vq0, .slice vp1 vl1 vq1, .slice vp2 vl2 vq2, .int .i64 v9, .int .i64 v10, .bool vb] #[.slice (some ⟨b, off, none⟩) n cap] #[.int .i64 0, .int .i64 0, .int .i64 0, .int .i64 0, .int .i64 0, .int .i64 0, .int .i64 0, .int .i64 0, .int .i64 0, .int .i64 0, .slice none 0 0, .slice none 0 0, .slice none 0 0, .int .i64 0, .int .i64 0, .bool false] 38 124 40) := T1
    go_wp2_with (first | (refine wp_loadBox 38 (.tmp 2) rfl rfl (w.heap.size) rfl (cs := [.int .i64 v0, .int .i64 v1, .int .i64 v2, .int .i64 v3, .int .i64 v4, .int .i64 v5, .int .i64 v6, .int .i64 v7, .int .i64 v8, .slice vp0 vl0 vq0, .slice vp1 vl1 vq1, .slice vp2 vl2 vq2, .int .i64 v9, .int .i64 v10, .bool vb]) (T1.b1) Tryz.underlying38 size_W rfl ?_) | (go_at_call 89; refine CQ.mono ?_; rintro e w5 ⟨r0, y0, y1, y2, y3, y4, y5, y6, y7, y8, yp0, yl0, yq0, yp1, yl1, yq1, yp2, yl2, yq2, y9, y10, yb, rfl, O5, CB5, C5⟩; have R5 := HT1.out.b3.chgl C5 (by simp)) | (refine wp_allocStore 40 6 (.tmp 9) [.int .i64 r0, .int .i64 y0, .int .i64 y1, .int .i64 y2, .int .i64 y3, .int .i64 y4, .int .i64 y5, .int .i64 y6, .int .i64 y7, .int .i64 y8, .slice yp0 yl0 yq0, .slice yp1 yl1 yq1, .slice yp2 yl2 yq2, .int .i64 y9, .int .i64 y10, .bool yb] _ 16 rfl rfl rfl rfl rfl rfl rfl rfl info_WRc rfl rfl O5.one ?_; have bN : Below w5.heap.size w5 (w5.alloc (.cells #[.int .i64 r0, .int .i64 y0, .int .i64 y1, .int .i64 y2, .int .i64 y3, .int .i64 y4, .int .i64 y5, .int .i64 y6, .int .i64 y7, .int .i64 y8, .slice yp0 yl0 yq0, .slice yp1 yl1 yq1, .slice yp2 yl2 yq2, .int .i64 y9, .int .i64 y10, .bool yb] 40)) := (Below.refl _ _).alloc (Nat.le_refl _) _; have cx := (CB5.below bN CB5.lt).cell 0; have R6 := R5.below bN R5.lt) | (refine wp_storeBox 40 _ _ rfl rfl (w.heap.size + 1 + 1) rfl (cs := [.int .i64 c, .int .i64 0, .int .i64 0, .int .i64 0, .int .i64 0, .int .i64 0, .int .i64 0, .int .i64 0, .int .i64 0, .int .i64 0, .slice none 0 0, .slice none 0 0, .slice none 0 0, .int .i64 0, .int .i64 0, .bool false]) (old := [.int .i64 0, .int .i64 0, .int .i64 0, .int .i64 0, .int .i64 0, .int .i64 0, .int .i64 0, .int .i64 0, .int .i64 0, .int .i64 0, .slice none 0 0, .slice none 0 0, .slice none 0 0, .int .i64 0, .int .i64 0, .bool false]) rfl R6 size_WR rfl rfl (code_one c (by rw [HCC.out]; exact HCO.out) w) ?_; intro w9 X9 C9 z9))
    refine ret_box Tryz.results40 rfl X9 Tryz.underlying40 size_WR rfl rfl ?_
    have z5 := C5.size
    have zz := C9.size
    have e : oc.final = ⟨c, zeroW⟩ := by
      cases oc with
      | cut d2 => exact absurd HCC.out HNE.out
      | done c2 d2 =>
        have e2 : c = c2 := HCC.out
        show (if c2 = 0 then _ else _) = _
        rw [← e2, if_neg HNE.out]
    rw [e]
    have B5 : Below w.heap.size w w5 := bW.trans (C5.bel (fun x hx => by simp at hx; omega) (by omega))
    have BN : Below w.heap.size w (w5.alloc (.cells #[.int .i64 r0, .int .i64 y0, .int .i64 y1, .int .i64 y2, .int .i64 y3, .int .i64 y4, .int .i64 y5, .int .i64 y6, .int .i64 y7, .int .i64 y8, .slice yp0 yl0 yq0, .slice yp1 yl1 yq1, .slice yp2 yl2 yq2, .int .i64 y9, .int .i64 y10, .bool yb] 40)) := B5.trans (bN.mono B5.size)
    have sN : (w5.alloc (.cells #[.int .i64 r0, .int .i64 y0, .int .i64 y1, .int .i64 y2, .int .i64 y3, .int .i64 y4, .int .i64 y5, .int .i64 y6, .int .i64 y7, .int .i64 y8, .slice yp0 yl0 yq0, .slice yp1 yl1 yq1, .slice yp2 yl2 yq2, .int .i64 y9, .int .i64 y10, .bool yb] 40)).heap.size = w5.heap.size + 1 := by simp
    refine ⟨_, rfl, ?_, BN.trans (C9.bel (fun x hx => by simp at hx; omega) BN.size)⟩
    exact own_resCode w9 c (by rw [HCC.out]; exact HCO.out) _ _
end Go.Proofs.YthdknhjaohhfiaaGreat

namespace Go.Proofs.YthdknhjaohhfiaaGreat
open Go.RowKit F256
set_option linter.unusedVariables false
set_option linter.unusedSimpArgs false
set_option maxHeartbeats 8000000 in
set_option maxRecDepth 20000 in
theorem l5Raw_fail (b : Nat) (v0 v1 v2 v3 v4 v5 v6 v7 v8 vp0 vl0 vq0 vp1 vl1 vq1 vp2 vl2 vq2 v9 v10 vb : _) (w : World) (hB : Box w b #[.int .i64 v0, .int .i64 v1, .int .i64 v2, .int .i64 v3, .int .i64 v4, .int .i64 v5, .int .i64 v6, .int .i64 v7, .int .i64 v8, .slice vp0 vl0 vq0, .slice vp1 vl1 vq1, .slice vp2 vl2 vq2, .int .i64 v9, .int .i64 v10, .bool vb] 38) (hd : vb = false) (hs : v10 ≠ -1) (hw : v10 ≤ v9) :
    Calls Tryz.prog 78 #[.pointer (some ⟨b, 0, none⟩)] w fun e w' => e = .returned (.bool false) ∧ Box w' b #[.int .i64 v0, .int .i64 v1, .int .i64 v2, .int .i64 v3, .int .i64 v4, .int .i64 v5, .int .i64 v6, .int .i64 v7, .int .i64 v8, .slice vp0 vl0 vq0, .slice none 0 0, .slice vp2 vl2 vq2, .int .i64 v9, .int .i64 v10, .bool true] 38 ∧ ChgL [b] w w' := by
  subst hd
  have d1 : (v10 != -1) = true := by simpa using hs
  have d2 : decide (v10 ≤ v9) = true := by simpa using hw
  have x12 : w.cell? ⟨b, 12, none⟩ = some (.int .i64 v9) := hB.cell 12
  have x13 : w.cell? ⟨b, 13, none⟩ = some (.int .i64 v10) := hB.cell 13
  have x14 : w.cell? ⟨b, 14, none⟩ = some (.bool false) := hB.cell 14
  clear hs hw
  go_enter Tryz.func78, Tryz.ntmps78
  go_upto_region 3 with fail
  go_quiet (fail)
  go_upto_region 4 with fail
  obtain ⟨W, hW⟩ : ∃ x, x = w.drewN nq := ⟨_, rfl⟩
  rw [← hW]
  have X1 : Box W b #[.int .i64 v0, .int .i64 v1, .int .i64 v2, .int .i64 v3, .int .i64 v4, .int .i64 v5, .int .i64 v6, .int .i64 v7, .int .i64 v8, .slice vp0 vl0 vq0, .slice vp1 vl1 vq1, .slice vp2 vl2 vq2, .int .i64 v9, .int .i64 v10, .bool false] 38 := by rw [hW]; exact hB
  have C1 : ChgL [b] w W := by rw [hW]; exact ⟨rfl, rfl, rfl, Nat.le_refl _, fun _ _ _ => rfl⟩
  clear hW x12 x13 x14 hB
  have y0 : W.cell? ⟨b, 14, none⟩ = some (.bool false) := X1.cell 14
  have yf0 : W.frozen? ⟨b, 14, none⟩ = false := X1.frozen 14
  have X2 : Box (W.setCell ⟨b, 14, none⟩ (.bool true)) b #[.int .i64 v0, .int .i64 v1, .int .i64 v2, .int .i64 v3, .int .i64 v4, .int .i64 v5, .int .i64 v6, .int .i64 v7, .int .i64 v8, .slice vp0 vl0 vq0, .slice vp1 vl1 vq1, .slice vp2 vl2 vq2, .int .i64 v9, .int .i64 v10, .bool true] 38 := X1.setc 14 _
  have y1 : (W.setCell ⟨b, 14, none⟩ (.bool true)).cell? ⟨b, 10, none⟩ = some (.slice vp1 vl1 vq1) := X2.cell 10
  have yf1 : (W.setCell ⟨b, 14, none⟩ (.bool true)).frozen? ⟨b, 10, none⟩ = false := X2.frozen 10
  have X3 : Box ((W.setCell ⟨b, 14, none⟩ (.bool true)).setCell ⟨b, 10, none⟩ (.slice none 0 0)) b #[.int .i64 v0, .int .i64 v1, .int .i64 v2, .int .i64 v3, .int .i64 v4, .int .i64 v5, .int .i64 v6, .int .i64 v7, .int .i64 v8, .slice vp0 vl0 vq0, .slice none 0 0, .slice vp2 vl2 vq2, .int .i64 v9, .int .i64 v10, .bool true] 38 := X2.setc 10 _
  have C3 : ChgL [b] w ((W.setCell ⟨b, 14, none⟩ (.bool true)).setCell ⟨b, 10, none⟩ (.slice none 0 0)) := (C1.st _ 14 _ (by simp)).st _ 10 _ (by simp)
  clear X1 X2 C1
  go_wp2
  go_ret
  exact ⟨rfl, X3, C3⟩
set_option maxHeartbeats 8000000 in
set_option maxRecDepth 20000 in
theorem l5Raw_ok1 (b : Nat) (v0 v1 v2 v3 v4 v5 v6 v7 v8 vp0 vl0 vq0 vp1 vl1 vq1 vp2 vl2 vq2 v9 v10 vb : _) (w : World) (hB : Box w b #[.int .i64 v0, .int .i64 v1, .int .i64 v2, .int .i64 v3, .int .i64 v4, .int .i64 v5, .int .i64 v6, .int .i64 v7, .int .i64 v8, .slice vp0 vl0 vq0, .slice vp1 vl1 vq1, .slice vp2 vl2 vq2, .int .i64 v9, .int .i64 v10, .bool vb] 38) (hd : vb = false) (d1 : (v10 != -1) = false) (hwr : -9223372036854775808 ≤ v9 ∧ v9 + 1 ≤ 9223372036854775807) :
    Calls Tryz.prog 78 #[.pointer (some ⟨b, 0, none⟩)] w fun e w' => e = .returned (.bool true) ∧ Box w' b #[.int .i64 v0, .int .i64 v1, .int .i64 v2, .int .i64 v3, .int .i64 v4, .int .i64 v5, .int .i64 v6, .int .i64 v7, .int .i64 v8, .slice vp0 vl0 vq0, .slice vp1 vl1 vq1, .slice vp2 vl2 vq2, .int .i64 (v9 + 1), .int .i64 v10, .bool vb] 38 ∧ ChgL [b] w w' := by
  have HD : Hid (vb = false) := hd
  obtain ⟨vc, hvc⟩ : ∃ x : Bool, x = vb := ⟨_, rfl⟩
  have zz : IntKind.i64.wrap (v9 + 1) = v9 + 1 := by rw [IntKind.wrap_i64]; omega
  have x12 : w.cell? ⟨b, 12, none⟩ = some (.int .i64 v9) := hB.cell 12
  have x13 : w.cell? ⟨b, 13, none⟩ = some (.int .i64 v10) := hB.cell 13
  have x14 : w.cell? ⟨b, 14, none⟩ = some (.bool false) := by rw [← HD.out]; exact hB.cell 14
  clear hwr hd
  go_enter Tryz.func78, Tryz.ntmps78
  go_upto_region 3 with fail
  go_quiet (fail)
  go_upto_region 7 with fail
  obtain ⟨W, hW⟩ : ∃ x, x = w.drewN nq := ⟨_, rfl⟩
  rw [← hW]
  have X1 : Box W b #[.int .i64 v0, .int .i64 v1, .int .i64 v2, .int .i64 v3, .int .i64 v4, .int .i64 v5, .int .i64 v6, .int .i64 v7, .int .i64 v8, .slice vp0 vl0 vq0, .slice vp1 vl1 vq1, .slice vp2 vl2 vq2, .int .i64 v9, .int .i64 v10, .bool vb] 38 := by rw [hW]; exact hB
  have C1 : ChgL [b] w W := by rw [hW]; exact ⟨rfl, rfl, rfl, Nat.le_refl _, fun _ _ _ => rfl⟩
  clear hW x12 x13 x14 hB
  have y0 : W.cell? ⟨b, 12, none⟩ = some (.int .i64 v9) := X1.cell 12
  have yf0 : W.frozen? ⟨b, 12, none⟩ = false := X1.frozen 12
  have X2 : Box (W.setCell ⟨b, 12, none⟩ (.int .i64 (v9 + 1))) b #[.int .i64 v0, .int .i64 v1, .int .i64 v2, .int .i64 v3, .int .i64 v4, .int .i64 v5, .int .i64 v6, .int .i64 v7, .int .i64 v8, .slice vp0 vl0 vq0, .slice vp1 vl1 vq1, .slice vp2 vl2 vq2, .int .i64 (v9 + 1), .int .i64 v10, .bool vb] 38 := X1.setc 12 _
  have C2' : ChgL [b] w (W.setCell ⟨b, 12, none⟩ (.int .i64 (v9 + 1))) := C1.st _ 12 _ (by simp)
  clear X1 C1
  go_wp2
  go_ret
  exact ⟨rfl, X2, C2'⟩
set_option maxHeartbeats 8000000 in
set_option maxRecDepth 20000 in
theorem l5Raw_ok2 (b : Nat) (v0 v1 v2 v3 v4 v5 v6 v7 v8 vp0 vl0 vq0 vp1 vl1 vq1 vp2 vl2 vq2 v9 v10 vb : _) (w : World) (hB : Box w b #[.int .i64 v0, .int .i64 v1, .int .i64 v2, .int .i64 v3, .int .i64 v4, .int .i64 v5, .int .i64 v6, .int .i64 v7, .int .i64 v8, .slice vp0 vl0 vq0, .slice vp1 vl1 vq1, .slice vp2 vl2 vq2, .int .i64 v9, .int .i64 v10, .bool vb] 38) (hd : vb = false) (d1 : (v10 != -1) = true) (d2 : decide (v10 ≤ v9) = false) (hwr : -9223372036854775808 ≤ v9 ∧ v9 + 1 ≤ 9223372036854775807) :
    Calls Tryz.prog 78 #[.pointer (some ⟨b, 0, none⟩)] w fun e w' => e = .returned (.bool true) ∧ Box w' b #[.int .i64 v0, .int .i64 v1, .int .i64 v2, .int .i64 v3, .int .i64 v4, .int .i64 v5, .int .i64 v6, .int .i64 v7, .int .i64 v8, .slice vp0 vl0 vq0, .slice vp1 vl1 vq1, .slice vp2 vl2 vq2, .int .i64 (v9 + 1), .int .i64 v10, .bool vb] 38 ∧ ChgL [b] w w' := by
  have HD : Hid (vb = false) := hd
  obtain ⟨vc, hvc⟩ : ∃ x : Bool, x = vb := ⟨_, rfl⟩
  have zz : IntKind.i64.wrap (v9 + 1) = v9 + 1 := by rw [IntKind.wrap_i64]; omega
  have x12 : w.cell? ⟨b, 12, none⟩ = some (.int .i64 v9) := hB.cell 12
  have x13 : w.cell? ⟨b, 13, none⟩ = some (.int .i64 v10) := hB.cell 13
  have x14 : w.cell? ⟨b, 14, none⟩ = some (.bool false) := by rw [← HD.out]; exact hB.cell 14
  clear hwr hd
  go_enter Tryz.func78, Tryz.ntmps78
  go_upto_region 3 with fail
  go_quiet (fail)
  go_upto_region 7 with fail
  obtain ⟨W, hW⟩ : ∃ x, x = w.drewN nq := ⟨_, rfl⟩
  rw [← hW]
  have X1 : Box W b #[.int .i64 v0, .int .i64 v1, .int .i64 v2, .int .i64 v3, .int .i64 v4, .int .i64 v5, .int .i64 v6, .int .i64 v7, .int .i64 v8, .slice vp0 vl0 vq0, .slice vp1 vl1 vq1, .slice vp2 vl2 vq2, .int .i64 v9, .int .i64 v10, .bool vb] 38 := by rw [hW]; exact hB
  have C1 : ChgL [b] w W := by rw [hW]; exact ⟨rfl, rfl, rfl, Nat.le_refl _, fun _ _ _ => rfl⟩
  clear hW x12 x13 x14 hB
  have y0 : W.cell? ⟨b, 12, none⟩ = some (.int .i64 v9) := X1.cell 12
  have yf0 : W.frozen? ⟨b, 12, none⟩ = false := X1.frozen 12
  have X2 : Box (W.setCell ⟨b, 12, none⟩ (.int .i64 (v9 + 1))) b #[.int .i64 v0, .int .i64 v1, .int .i64 v2, .int .i64 v3, .int .i64 v4, .int .i64 v5, .int .i64 v6, .int .i64 v7, .int .i64 v8, .slice vp0 vl0 vq0, .slice vp1 vl1 vq1, .slice vp2 vl2 vq2, .int .i64 (v9 + 1), .int .i64 v10, .bool vb] 38 := X1.setc 12 _
  have C2' : ChgL [b] w (W.setCell ⟨b, 12, none⟩ (.int .i64 (v9 + 1))) := C1.st _ 12 _ (by simp)
  clear X1 C1
  go_wp2
  go_ret
  exact ⟨rfl, X2, C2'⟩
theorem l5Raw_ok (b : Nat) (v0 v1 v2 v3 v4 v5 v6 v7 v8 vp0 vl0 vq0 vp1 vl1 vq1 vp2 vl2 vq2 v9 v10 vb : _) (w : World) (hB : Box w b #[.int .i64 v0, .int .i64 v1, .int .i64 v2, .int .i64 v3, .int .i64 v4, .int .i64 v5, .int .i64 v6, .int .i64 v7, .int .i64 v8, .slice vp0 vl0 vq0, .slice vp1 vl1 vq1, .slice vp2 vl2 vq2, .int .i64 v9, .int .i64 v10, .bool vb] 38) (hd : vb = false) (hpw : ¬ (v10 ≠ -1 ∧ v10 ≤ v9)) (hwr : -9223372036854775808 ≤ v9 ∧ v9 + 1 ≤ 9223372036854775807) :
    Calls Tryz.prog 78 #[.pointer (some ⟨b, 0, none⟩)] w fun e w' => e = .returned (.bool true) ∧ Box w' b #[.int .i64 v0, .int .i64 v1, .int .i64 v2, .int .i64 v3, .int .i64 v4, .int .i64 v5, .int .i64 v6, .int .i64 v7, .int .i64 v8, .slice vp0 vl0 vq0, .slice vp1 vl1 vq1, .slice vp2 vl2 vq2, .int .i64 (v9 + 1), .int .i64 v10, .bool vb] 38 ∧ ChgL [b] w w' := by
  by_cases hs : v10 = -1
  · exact l5Raw_ok1 b v0 v1 v2 v3 v4 v5 v6 v7 v8 vp0 vl0 vq0 vp1 vl1 vq1 vp2 vl2 vq2 v9 v10 vb w hB hd (by simpa using hs) hwr
  · exact l5Raw_ok2 b v0 v1 v2 v3 v4 v5 v6 v7 v8 vp0 vl0 vq0 vp1 vl1 vq1 vp2 vl2 vq2 v9 v10 vb w hB hd (by simpa using hs) (by simp only [decide_eq_false_iff_not]; exact fun h => hpw ⟨hs, h⟩) hwr
end Go.Proofs.YthdknhjaohhfiaaGreat

namespace Go.Proofs.YthdknhjaohhfiaaGreat
open Go.RowKit F256
set_option linter.unusedVariables false
set_option linter.unusedSimpArgs false
/-- the block B holds the world d, with the blocks K -/
def SpB (w : World) (B : Nat) (d : WorldD) (K : List Nat) : Prop := ∃ cs, Box w B cs.toArray 38 ∧ EncO w B d cs K
def SpP (o : Outc) (B : Nat) (w : World) (K : List Nat) (e : Ending) (w' : World) : Prop := match o with
  | .done _ d => e = .returned (.bool true) ∧ ∃ K', SpB w' B d K' ∧ (∀ b, b ∈ K' → b ∈ K ∨ w.heap.size ≤ b) ∧ ChgL (B :: K) w w'
  | .cut d => e = .returned (.bool false) ∧ ∃ K', SpB w' B (cutW d) K' ∧ (∀ b, b ∈ K' → b ∈ K ∨ w.heap.size ≤ b) ∧ ChgL (B :: K) w w'
theorem SpB.lt {w : World} {B : Nat} {d : WorldD} {K : List Nat} (h : SpB w B d K) : B < w.heap.size := by
  obtain ⟨cs, h1, _⟩ := h
  exact h1.lt
theorem l5Raw_sp (B : Nat) (d : WorldD) (K : List Nat) (w : World) (hX : SpB w B d K) (hd : d.down = false) (hwr : -9223372036854775808 ≤ d.writes ∧ d.writes + 1 ≤ 9223372036854775807) :
    Calls Tryz.prog 78 #[.pointer (some ⟨B, 0, none⟩)] w fun e w' => ((d.stop ≠ -1 ∧ d.stop ≤ d.writes) ∧ e = .returned (.bool false) ∧ (∃ K', SpB w' B (cutW d) K' ∧ ∀ b, b ∈ K' → b ∈ K) ∧ ChgL [B] w w') ∨ (¬ (d.stop ≠ -1 ∧ d.stop ≤ d.writes) ∧ e = .returned (.bool true) ∧ SpB w' B { d with writes := d.writes + 1 } K ∧ ChgL [B] w w') := by
  obtain ⟨cs, hB, hO⟩ := hX
  obtain ⟨v0, v1, v2, v3, v4, v5, v6, v7, v8, vp0, vl0, vq0, vp1, vl1, vq1, vp2, vl2, vq2, v9, v10, vb, rfl⟩ := world15L hO.own
  have st := stop_of hO.own
  have wt := writes_of hO.own
  have dn := down_of hO.T.rd
  by_cases hf : d.stop ≠ -1 ∧ d.stop ≤ d.writes
  · obtain ⟨KC, kc1, kc2, kc3⟩ := own_cutK hO.own hO.nd
    refine (l5Raw_fail B v0 v1 v2 v3 v4 v5 v6 v7 v8 vp0 vl0 vq0 vp1 vl1 vq1 vp2 vl2 vq2 v9 v10 vb w hB (by rw [dn]; exact hd) (by rw [st]; exact hf.1) (by rw [st, wt]; exact hf.2)).mono ?_
    rintro e w' ⟨rfl, X5, C5⟩
    refine .inl ⟨hf, rfl, ⟨KC, ⟨_, X5, Lay.own_chgL _ kc1 C5 (fun b hb hm => ?_), kc2, fun hm => hO.ne (kc3 _ hm)⟩, kc3⟩, C5⟩
    simp at hm
    exact hO.ne (hm ▸ kc3 b hb)
  · refine (l5Raw_ok B v0 v1 v2 v3 v4 v5 v6 v7 v8 vp0 vl0 vq0 vp1 vl1 vq1 vp2 vl2 vq2 v9 v10 vb w hB (by rw [dn]; exact hd) (by rw [st, wt]; exact hf) (by rw [wt]; exact hwr)).mono ?_
    rintro e w' ⟨rfl, X5, C5⟩
    have O2 := own_writesK (d.writes + 1) (by omega) hO.own
    rw [wt] at X5
    exact .inr ⟨hf, rfl, ⟨_, X5, Lay.own_chgL _ O2 C5 (fun b hb hm => by simp at hm; exact hO.ne (hm ▸ hb)), hO.nd, hO.ne⟩, C5⟩
/-- fit for n raw writes more -/
structure Fit2 (n : Nat) (d : WorldD) : Prop where
  two : d.tapes.1 = 2
  few : ∀ T, T < 2 → (d.tapes.2 T).recs.1 ≤ 1048576
  up : d.down = false
  low : -9223372036854775808 ≤ d.writes
  room : d.writes + n ≤ 9223372036854775807
def strikeF (kd sq : Int) (k : Nat) : WorldD → Outc := rawO (fun d => strikeW d k kd sq)
end Go.Proofs.YthdknhjaohhfiaaGreat

namespace Go.Proofs.YthdknhjaohhfiaaGreat
open Go.RowKit F256
set_option linter.unusedVariables false
set_option linter.unusedSimpArgs false
/-- a world's box, two numbers' boxes, the result's -/
structure Cap2 (w wc : World) (c1 : Array Value) (x y : Int) (c4 : Array Value) (t1 t4 : TypeId) : Prop where
  b1 : Box wc w.heap.size c1 t1
  b2 : Box wc (w.heap.size + 1) #[.int .i64 x] 2
  b3 : Box wc (w.heap.size + 1 + 1) #[.int .i64 y] 2
  b4 : Box wc (w.heap.size + 1 + 1 + 1) c4 t4
  bel : Below w.heap.size w wc
theorem Cap2.call {w wc w' : World} {c1 c4 : Array Value} {x y : Int} {t1 t4 : TypeId} (h : Cap2 w wc c1 x y c4 t1 t4) (hb : Below wc.heap.size wc w') : Cap2 w w' c1 x y c4 t1 t4 := ⟨h.b1.call hb, h.b2.call hb, h.b3.call hb, h.b4.call hb, h.bel.trans (hb.mono h.bel.size)⟩
theorem post_codeR {P : WorldResultD → Prop} {w wc w9 : World} {x : Int} {r : Nat} (hr : w.heap.size ≤ r) (hx : -9223372036854775808 ≤ x ∧ x ≤ 9223372036854775807) (hb : Below w.heap.size w wc) (hc : ChgL [r] wc w9) (hP : P ⟨x, zeroW⟩) : ResPost P w (.returned (.agg #[.int .i64 x, .int .i64 0, .int .i64 0, .int .i64 0, .int .i64 0, .int .i64 0, .int .i64 0, .int .i64 0, .int .i64 0, .int .i64 0, .slice none 0 0, .slice none 0 0, .slice none 0 0, .int .i64 0, .int .i64 0, .bool false])) w9 :=
  ⟨⟨x, zeroW⟩, [.int .i64 x, .int .i64 0, .int .i64 0, .int .i64 0, .int .i64 0, .int .i64 0, .int .i64 0, .int .i64 0, .int .i64 0, .int .i64 0, .slice none 0 0, .slice none 0 0, .slice none 0 0, .int .i64 0, .int .i64 0, .bool false], rfl, hP, own_resCode _ x hx _ _, hb.trans (hc.bel (fun b hb => by simp at hb; omega) hb.size)⟩
end Go.Proofs.YthdknhjaohhfiaaGreat

namespace Go.Proofs.YthdknhjaohhfiaaGreat
open Go.RowKit F256
set_option linter.unusedVariables false
set_option linter.unusedSimpArgs false
/-- the world's fault, then 9 where it is down -/
def AskAns (d : WorldD) (x : Int) : Prop := (x ≠ 0 ∧ WldAns d x) ∨ (WldAns d 0 ∧ ((d.down = true ∧ x = 9) ∨ (d.down = false ∧ x = 0)))
theorem AskAns.one {d : WorldD} {x y : Int} (h : AskAns d x) (k : AskAns d y) : x = y := by
  rcases h with ⟨h1, h2⟩ | ⟨h1, h2⟩ <;> rcases k with ⟨k1, k2⟩ | ⟨k1, k2⟩
  · exact h2.one k2
  · exact absurd (h2.one k1) h1
  · exact absurd (k2.one h1) k1
  · rcases h2 with ⟨a, rfl⟩ | ⟨a, rfl⟩ <;> rcases k2 with ⟨b, rfl⟩ | ⟨b, rfl⟩
    · rfl
    · rw [a] at b; cases b
    · rw [a] at b; cases b
    · rfl
/-- a number is told -/
def IntPost (P : Int → Prop) (w : World) (e : Ending) (w' : World) : Prop := ∃ x, e = .returned (.int .i64 x) ∧ P x ∧ Below w.heap.size w w'
end Go.Proofs.YthdknhjaohhfiaaGreat

namespace Go.Proofs.YthdknhjaohhfiaaGreat
open Go.RowKit F256
set_option linter.unusedVariables false
set_option linter.unusedSimpArgs false
set_option maxHeartbeats 4000000 in
set_option maxRecDepth 20000 in
theorem l5Asked_any (d : WorldD) (cs : List Value) (hi : Nat) (w : World) (h : layWorld.rd w hi d cs) (hhi : hi ≤ w.heap.size) (hsz : szWorldD d ≤ 1048576) :
    Calls Tryz.prog 52 #[.agg cs.toArray] w (IntPost (AskAns d) w) := by
  have C := fun w' hb => specWorld_any d cs hi w' (layWorld.rd_below h (B := w.heap.size) hb hhi)
  obtain ⟨ao1, cap1, ao2, cap2, ao3, cap3, rfl, -⟩ := World_rd h
  have T0 := one_new w #[.int .i64 (d.shape 0), .int .i64 (d.shape 1), .int .i64 (d.shape 2), .int .i64 (d.shape 3), .int .i64 (d.shape 4), .int .i64 (d.shape 5), .int .i64 (d.shape 6), .int .i64 (d.shape 7), .int .i64 (d.shape 8), .slice ao1 d.groups.1 cap1, .slice ao2 d.on.1 cap2, .slice ao3 d.tapes.1 cap3, .int .i64 d.writes, .int .i64 d.stop, .bool d.down] 38
  clear h
  go_enter Tryz.func52, Tryz.ntmps52
  go_wp2_with (refine wp_loadBox 38 (.tmp 1) rfl rfl w.heap.size rfl (cs := [.int .i64 (d.shape 0), .int .i64 (d.shape 1), .int .i64 (d.shape 2), .int .i64 (d.shape 3), .int .i64 (d.shape 4), .int .i64 (d.shape 5), .int .i64 (d.shape 6), .int .i64 (d.shape 7), .int .i64 (d.shape 8), .slice ao1 d.groups.1 cap1, .slice ao2 d.on.1 cap2, .slice ao3 d.tapes.1 cap3, .int .i64 d.writes, .int .i64 d.stop, .bool d.down]) T0.b1 Tryz.underlying38 size_W rfl ?_)
  refine (C _ T0.bel (Nat.le_trans hhi T0.bel.size) (wld_ok_names hsz)).mono ?_
  rintro e w1 ⟨x, rfl, hx, b1⟩
  have T1 := T0.call b1
  have HX : Hid (WldAns d x) := hx
  have HB : Hid (Below w.heap.size w w1) := T1.bel
  have c14 : w1.cell? ⟨w.heap.size, 14, none⟩ = some (.bool d.down) := T1.b1.cell 14
  clear T0 T1 b1 C hx
  by_cases hx0 : x = 0
  · subst hx0
    obtain ⟨dn, hdn⟩ : ∃ b, b = d.down := ⟨_, rfl⟩
    rw [← hdn] at c14
    have HD : Hid (dn = d.down) := hdn
    clear hdn
    cases dn with
    | true =>
      go_wp2
      go_ret
      exact ⟨9, rfl, .inr ⟨HX.out, .inl ⟨HD.out.symm, rfl⟩⟩, HB.out⟩
    | false =>
      go_wp2
      go_ret
      exact ⟨0, rfl, .inr ⟨HX.out, .inr ⟨HD.out.symm, rfl⟩⟩, HB.out⟩
  · have hne : (x != 0) = true := by simp [hx0]
    go_wp2
    go_ret
    exact ⟨x, rfl, .inl ⟨hx0, HX.out⟩, HB.out⟩
set_option maxHeartbeats 4000000 in
set_option maxRecDepth 20000 in
theorem powered_any (d : WorldD) (cs : List Value) (hi : Nat) (w : World) (h : layWorld.rd w hi d cs) (hhi : hi ≤ w.heap.size) (hsz : szWorldD d ≤ 1048576) :
    Calls Tryz.prog 55 #[.agg cs.toArray] w (IntPost (AskAns d) w) := by
  have C := fun w' hb => implWorld_any d cs hi w' (layWorld.rd_below h (B := w.heap.size) hb hhi)
  obtain ⟨ao1, cap1, ao2, cap2, ao3, cap3, rfl, -⟩ := World_rd h
  have T0 := one_new w #[.int .i64 (d.shape 0), .int .i64 (d.shape 1), .int .i64 (d.shape 2), .int .i64 (d.shape 3), .int .i64 (d.shape 4), .int .i64 (d.shape 5), .int .i64 (d.shape 6), .int .i64 (d.shape 7), .int .i64 (d.shape 8), .slice ao1 d.groups.1 cap1, .slice ao2 d.on.1 cap2, .slice ao3 d.tapes.1 cap3, .int .i64 d.writes, .int .i64 d.stop, .bool d.down] 38
  clear h
  go_enter Tryz.func55, Tryz.ntmps55
  go_wp2_with (refine wp_loadBox 38 (.tmp 1) rfl rfl w.heap.size rfl (cs := [.int .i64 (d.shape 0), .int .i64 (d.shape 1), .int .i64 (d.shape 2), .int .i64 (d.shape 3), .int .i64 (d.shape 4), .int .i64 (d.shape 5), .int .i64 (d.shape 6), .int .i64 (d.shape 7), .int .i64 (d.shape 8), .slice ao1 d.groups.1 cap1, .slice ao2 d.on.1 cap2, .slice ao3 d.tapes.1 cap3, .int .i64 d.writes, .int .i64 d.stop, .bool d.down]) T0.b1 Tryz.underlying38 size_W rfl ?_)
  refine (C _ T0.bel (Nat.le_trans hhi T0.bel.size) (wld_ok_names hsz)).mono ?_
  rintro e w1 ⟨x, rfl, hx, b1⟩
  have T1 := T0.call b1
  have HX : Hid (WldAns d x) := hx
  have HB : Hid (Below w.heap.size w w1) := T1.bel
  have c14 : w1.cell? ⟨w.heap.size, 14, none⟩ = some (.bool d.down) := T1.b1.cell 14
  clear T0 T1 b1 C hx
  by_cases hx0 : x = 0
  · subst hx0
    obtain ⟨dn, hdn⟩ : ∃ b, b = d.down := ⟨_, rfl⟩
    rw [← hdn] at c14
    have HD : Hid (dn = d.down) := hdn
    clear hdn
    cases dn with
    | true =>
      go_wp2
      go_ret
      exact ⟨9, rfl, .inr ⟨HX.out, .inl ⟨HD.out.symm, rfl⟩⟩, HB.out⟩
    | false =>
      go_wp2
      go_ret
      exact ⟨0, rfl, .inr ⟨HX.out, .inr ⟨HD.out.symm, rfl⟩⟩, HB.out⟩
  · have hne : (x != 0) = true := by simp [hx0]
    go_wp2
    go_ret
    exact ⟨x, rfl, .inl ⟨hx0, HX.out⟩, HB.out⟩
/-- a place within the shape -/
def PlaceP (s : Nat → Int) (g k r : Int) : Prop := InP g 0 (s 0 + s 1 - 1) ∧ InP k 0 (s 2 + s 3 - 1) ∧ InP r 0 (s 4 - 1)
def DriveP (s : Nat → Int) (g k : Int) : Prop := InP g 0 (s 0 + s 1 - 1) ∧ InP k 0 (s 2 + s 3 - 1)
end Go.Proofs.YthdknhjaohhfiaaGreat

namespace Go.Proofs.YthdknhjaohhfiaaGreat
open Go.RowKit F256
set_option linter.unusedVariables false
set_option linter.unusedSimpArgs false
def zeroBl : BlockD := ⟨0, (0, fun _ => 0)⟩
def drvAt (d : WorldD) (g k : Int) : DriveD := (d.groups.2 g.toNat).2 k.toNat
def ReadAns (d : WorldD) (g k r : Int) (q : BlockResultD) : Prop :=
  (∃ x, x ≠ 0 ∧ AskAns d x ∧ q = ⟨x, zeroBl⟩) ∨ (AskAns d 0 ∧ ((¬ PlaceP d.shape g k r ∧ q = ⟨3, zeroBl⟩) ∨ (PlaceP d.shape g k r ∧ ((¬ HasP d.on.1 d.on.2 g ∧ q = ⟨8, zeroBl⟩) ∨ (HasP d.on.1 d.on.2 g ∧
    (((drvAt d g k).wiped = true ∧ q = ⟨12, zeroBl⟩) ∨ ((drvAt d g k).wiped = false ∧ q = ⟨0, (drvAt d g k).blocks.2 r.toNat⟩)))))))
theorem ReadAns.one {d : WorldD} {g k r : Int} {p q : BlockResultD} (h : ReadAns d g k r p) (l : ReadAns d g k r q) : p = q := by
  rcases h with ⟨x, h1, h2, rfl⟩ | ⟨h1, h⟩ <;> rcases l with ⟨y, l1, l2, rfl⟩ | ⟨l1, l⟩
  · rw [h2.one l2]
  · exact absurd (h2.one l1) h1
  · exact absurd (l2.one h1) l1
  · rcases h with ⟨h2, rfl⟩ | ⟨h2, h⟩ <;> rcases l with ⟨l2, rfl⟩ | ⟨l2, l⟩
    · rfl
    · exact absurd l2 h2
    · exact absurd h2 l2
    · rcases h with ⟨h3, rfl⟩ | ⟨h3, h⟩ <;> rcases l with ⟨l3, rfl⟩ | ⟨l3, l⟩
      · rfl
      · exact absurd l3 h3
      · exact absurd h3 l3
      · rcases h with ⟨h4, rfl⟩ | ⟨h4, rfl⟩ <;> rcases l with ⟨l4, rfl⟩ | ⟨l4, rfl⟩
        · rfl
        · rw [h4] at l4; cases l4
        · rw [h4] at l4; cases l4
        · rfl
theorem ask_small {d : WorldD} {x : Int} (h : AskAns d x) : (-9223372036854775808 ≤ x ∧ x ≤ 9223372036854775807) := by
  rcases h with ⟨_, h⟩ | ⟨_, h | h⟩
  · exact wld_small h
  · rw [h.2]; decide
  · rw [h.2]; decide
theorem ask_ok {d : WorldD} (h : AskAns d 0) : OkWorld d := by
  rcases h with ⟨h, _⟩ | ⟨h, _⟩
  · exact absurd rfl h
  · exact h.ok
end Go.Proofs.YthdknhjaohhfiaaGreat

namespace Go.Proofs.YthdknhjaohhfiaaGreat
open Go.RowKit F256
set_option linter.unusedVariables false
set_option linter.unusedSimpArgs false
def wipedD (R : Nat) : DriveD := ⟨true, (R, fun _ => blankB)⟩
def wipeDW (d : WorldD) (g k : Int) : WorldD := { d with groups := (d.groups.1, upd d.groups.2 g.toNat ((d.groups.2 g.toNat).1, upd (d.groups.2 g.toNat).2 k.toNat (wipedD (d.shape 4).toNat))) }
def WipeDAns (d : WorldD) (g k : Int) (r : WorldResultD) : Prop := (∃ x, x ≠ 0 ∧ WldAns d x ∧ r = ⟨x, zeroW⟩) ∨ (WldAns d 0 ∧ ((¬ DriveP d.shape g k ∧ r = ⟨3, zeroW⟩) ∨ (DriveP d.shape g k ∧ r = ⟨0, wipeDW d g k⟩)))
theorem WipeDAns.one {d : WorldD} {g k : Int} {r q : WorldResultD} (h : WipeDAns d g k r) (l : WipeDAns d g k q) : r = q := by
  rcases h with ⟨x, h1, h2, rfl⟩ | ⟨h1, h⟩ <;> rcases l with ⟨y, k1, k2, rfl⟩ | ⟨k1, l⟩
  · rw [h2.one k2]
  · exact absurd (h2.one k1) h1
  · exact absurd (k2.one h1) k1
  · rcases h with ⟨h2, rfl⟩ | ⟨h2, rfl⟩ <;> rcases l with ⟨k2, rfl⟩ | ⟨k2, rfl⟩
    · rfl
    · exact absurd k2 h2
    · exact absurd h2 k2
    · rfl
end Go.Proofs.YthdknhjaohhfiaaGreat

namespace Go.Proofs.YthdknhjaohhfiaaGreat
open Go.RowKit F256
set_option linter.unusedVariables false
set_option linter.unusedSimpArgs false
def onW (d : WorldD) (g : Int) : WorldD := { d with on := (d.on.1 + 1, upd d.on.2 d.on.1 g) }
def OnAns (d : WorldD) (g : Int) (r : WorldResultD) : Prop := (∃ x, x ≠ 0 ∧ AskAns d x ∧ r = ⟨x, zeroW⟩) ∨ (AskAns d 0 ∧ ((¬ InP g 0 (d.shape 0 + d.shape 1 - 1) ∧ r = ⟨3, zeroW⟩) ∨ (InP g 0 (d.shape 0 + d.shape 1 - 1) ∧ ((HasP d.on.1 d.on.2 g ∧ r = ⟨0, d⟩) ∨ (¬ HasP d.on.1 d.on.2 g ∧ ((d.shape 5 ≤ (d.on.1 : Int) ∧ r = ⟨7, zeroW⟩) ∨ (¬ d.shape 5 ≤ (d.on.1 : Int) ∧ r = ⟨0, onW d g⟩)))))))
theorem OnAns.one {d : WorldD} {g : Int} {r q : WorldResultD} (h : OnAns d g r) (k : OnAns d g q) : r = q := by
  rcases h with ⟨x, h1, h2, rfl⟩ | ⟨h1, h⟩ <;> rcases k with ⟨y, k1, k2, rfl⟩ | ⟨k1, k⟩
  · rw [h2.one k2]
  · exact absurd (h2.one k1) h1
  · exact absurd (k2.one h1) k1
  · rcases h with ⟨h2, rfl⟩ | ⟨h2, h⟩ <;> rcases k with ⟨k2, rfl⟩ | ⟨k2, k⟩
    · rfl
    · exact absurd k2 h2
    · exact absurd h2 k2
    · rcases h with ⟨h3, rfl⟩ | ⟨h3, h⟩ <;> rcases k with ⟨k3, rfl⟩ | ⟨k3, k⟩
      · rfl
      · exact absurd h3 k3
      · exact absurd k3 h3
      · rcases h with ⟨h4, rfl⟩ | ⟨h4, rfl⟩ <;> rcases k with ⟨k4, rfl⟩ | ⟨k4, rfl⟩
        · rfl
        · exact absurd h4 k4
        · exact absurd k4 h4
        · rfl
end Go.Proofs.YthdknhjaohhfiaaGreat
