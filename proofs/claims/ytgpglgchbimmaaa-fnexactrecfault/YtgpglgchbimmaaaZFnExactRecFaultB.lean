/- Walks of the program's isLetter, isDigit and NameFault. -/
import Derived.Test.YtgpglgchbimmaaaZFnExactRecFaultA
import Derived.Deep.Cut
namespace Go.Proofs.Ytgpglgchbimmaaa
open Go.RowKit F256
set_option linter.unusedVariables false
set_option linter.unusedSimpArgs false

set_option maxHeartbeats 8000000 in
theorem shareIn_any (s : Nat → Int) (hs : OkShape s) (r : RecD) (cs : List Value) (hi : Nat) (w : World) (h : layRec.rd w hi r cs) (hhi : hi ≤ w.heap.size) :
    Calls Try.prog 77 #[shapeV s, .agg cs.toArray] w (BoolP (ShareP s r) w) := by
  obtain ⟨ao6, cap6, ao7, cap7, ao8, cap8, rfl, g6, g7, g8, -⟩ := Rec_rd h
  clear h
  have hb := okB hs
  have HS : Hid (OkShape s) := hs
  obtain ⟨v6, e6, ⟨h6, hcp6⟩, _⟩ := g6
  cases e6
  have H6 : Hid (RdI w hi (.slice ao6 r.rows.1 cap6) r.rows.1 r.rows.2) := h6
  have hm6 := h6.mx
  obtain ⟨_, _, e6', _, hc6⟩ := h6
  cases e6'
  obtain ⟨v7, e7, ⟨_, _, e7', hm7, _⟩, _⟩ := g7
  cases e7
  cases e7'
  obtain ⟨v8, e8, ⟨_, _, e8', hm8, hc8⟩, hk8⟩ := g8
  cases e8
  cases e8'
  have HC6 : Hid (r.rows.1 ≠ 0 → ∃ b off, ao6 = some ⟨b, off, none⟩ ∧ b < hi ∧ ∀ i, i < r.rows.1 → w.cell? ⟨b, off + i, none⟩ = some (.int .i64 (r.rows.2 i))) := hc6
  have HC8 : Hid (r.delta.1 ≠ 0 → ∃ b off, ao8 = some ⟨b, off, none⟩ ∧ b < hi ∧ ∀ i, i < r.delta.1 → w.cell? ⟨b, off + i, none⟩ = some (.int .u8 (r.delta.2 i))) := hc8
  unfold maxLen at hm6 hm7 hm8
  clear hcp6 hc6 hc8 hk8
  unfold shapeV
  go_enter Try.func77, Try.ntmps77
  go_wp2_with fail
  have T0 := two_newb w #[.int .i64 (s 0), .int .i64 (s 1), .int .i64 (s 2), .int .i64 (s 3), .int .i64 (s 4), .int .i64 (s 5), .int .i64 (s 6), .int .i64 (s 7), .int .i64 (s 8)] #[.int .i64 r.kind, .int .i64 r.seq, .string r.name, .int .i64 r.length, .int .i64 r.group, .int .i64 r.row, .slice ao6 r.rows.1 cap6, .slice ao7 r.data.1 cap7, .slice ao8 r.delta.1 cap8] 31 45
  obtain ⟨W, hW⟩ : ∃ W, W = (w.alloc (.cells #[.int .i64 (s 0), .int .i64 (s 1), .int .i64 (s 2), .int .i64 (s 3), .int .i64 (s 4), .int .i64 (s 5), .int .i64 (s 6), .int .i64 (s 7), .int .i64 (s 8)] 31)).alloc (.cells #[.int .i64 r.kind, .int .i64 r.seq, .string r.name, .int .i64 r.length, .int .i64 r.group, .int .i64 r.row, .slice ao6 r.rows.1 cap6, .slice ao7 r.data.1 cap7, .slice ao8 r.delta.1 cap8] 45) := ⟨_, rfl⟩
  rw [← hW] at T0 ⊢
  clear hW
  have HT : Hid (Two w W #[.int .i64 (s 0), .int .i64 (s 1), .int .i64 (s 2), .int .i64 (s 3), .int .i64 (s 4), .int .i64 (s 5), .int .i64 (s 6), .int .i64 (s 7), .int .i64 (s 8)] #[.int .i64 r.kind, .int .i64 r.seq, .string r.name, .int .i64 r.length, .int .i64 r.group, .int .i64 r.row, .slice ao6 r.rows.1 cap6, .slice ao7 r.data.1 cap7, .slice ao8 r.delta.1 cap8] 31 45) := T0
  have x0_0 : W.cell? ⟨w.heap.size, 0, none⟩ = some (.int .i64 (s 0)) := T0.b1.cell 0
  have kx0_0 := cell_regrown x0_0
  have x0_1 : W.cell? ⟨w.heap.size, 1, none⟩ = some (.int .i64 (s 1)) := T0.b1.cell 1
  have kx0_1 := cell_regrown x0_1
  have x0_2 : W.cell? ⟨w.heap.size, 2, none⟩ = some (.int .i64 (s 2)) := T0.b1.cell 2
  have kx0_2 := cell_regrown x0_2
  have x0_3 : W.cell? ⟨w.heap.size, 3, none⟩ = some (.int .i64 (s 3)) := T0.b1.cell 3
  have kx0_3 := cell_regrown x0_3
  have x0_4 : W.cell? ⟨w.heap.size, 4, none⟩ = some (.int .i64 (s 4)) := T0.b1.cell 4
  have kx0_4 := cell_regrown x0_4
  have x0_5 : W.cell? ⟨w.heap.size, 5, none⟩ = some (.int .i64 (s 5)) := T0.b1.cell 5
  have kx0_5 := cell_regrown x0_5
  have x0_6 : W.cell? ⟨w.heap.size, 6, none⟩ = some (.int .i64 (s 6)) := T0.b1.cell 6
  have kx0_6 := cell_regrown x0_6
  have x0_7 : W.cell? ⟨w.heap.size, 7, none⟩ = some (.int .i64 (s 7)) := T0.b1.cell 7
  have kx0_7 := cell_regrown x0_7
  have x0_8 : W.cell? ⟨w.heap.size, 8, none⟩ = some (.int .i64 (s 8)) := T0.b1.cell 8
  have kx0_8 := cell_regrown x0_8
  have y0_0 : W.cell? ⟨w.heap.size + 1, 0, none⟩ = some (.int .i64 r.kind) := T0.b2.cell 0
  have ky0_0 := cell_regrown y0_0
  have y0_1 : W.cell? ⟨w.heap.size + 1, 1, none⟩ = some (.int .i64 r.seq) := T0.b2.cell 1
  have ky0_1 := cell_regrown y0_1
  have y0_2 : W.cell? ⟨w.heap.size + 1, 2, none⟩ = some (.string r.name) := T0.b2.cell 2
  have ky0_2 := cell_regrown y0_2
  have y0_3 : W.cell? ⟨w.heap.size + 1, 3, none⟩ = some (.int .i64 r.length) := T0.b2.cell 3
  have ky0_3 := cell_regrown y0_3
  have y0_4 : W.cell? ⟨w.heap.size + 1, 4, none⟩ = some (.int .i64 r.group) := T0.b2.cell 4
  have ky0_4 := cell_regrown y0_4
  have y0_5 : W.cell? ⟨w.heap.size + 1, 5, none⟩ = some (.int .i64 r.row) := T0.b2.cell 5
  have ky0_5 := cell_regrown y0_5
  have y0_6 : W.cell? ⟨w.heap.size + 1, 6, none⟩ = some (.slice ao6 r.rows.1 cap6) := T0.b2.cell 6
  have ky0_6 := cell_regrown y0_6
  have y0_7 : W.cell? ⟨w.heap.size + 1, 7, none⟩ = some (.slice ao7 r.data.1 cap7) := T0.b2.cell 7
  have ky0_7 := cell_regrown y0_7
  have y0_8 : W.cell? ⟨w.heap.size + 1, 8, none⟩ = some (.slice ao8 r.delta.1 cap8) := T0.b2.cell 8
  have ky0_8 := cell_regrown y0_8
  obtain ⟨t1, h1⟩ := exB (InP r.group 0 (s 0 + s 1 - 1))
  obtain ⟨t2, h2⟩ := exB (InP r.row 0 (s 4 - 1))
  obtain ⟨t3, h3⟩ := exB (RiseP r.rows.1 r.rows.2 (s 0 + s 1 - 1))
  have cG := q_below (W := W) (fun w' _ => isGroup_b HS.out h1 w')
  have cR := q_below (W := W) (fun w' _ => isRow_b HS.out h2 w')
  have cA := q_below (W := W) (fun w' _ => groupCount_any s HS.out w')
  have cS := q_below (W := W) (fun w' hw' => det_b (risesWithin_any _ r.rows.1 r.rows.2 hi (s 0 + s 1) (by omega) w' ((H6.out.below T0.bel hhi).below hw' (Nat.le_trans hhi T0.bel.size))) h3)
  unfold shapeV at cG cR cA
  clear T0
  have H1 : Hid (t1 = true ↔ InP r.group 0 (s 0 + s 1 - 1)) := h1
  have H2 : Hid (t2 = true ↔ InP r.row 0 (s 4 - 1)) := h2
  have H3 : Hid (t3 = true ↔ RiseP r.rows.1 r.rows.2 (s 0 + s 1 - 1)) := h3
  have hst : t1 = false ∨ (t1 = true ∧ t2 = false) ∨ (t1 = true ∧ t2 = true ∧ t3 = false) ∨ (t1 = true ∧ t2 = true ∧ t3 = true) := by
    clear H1 H2 H3 h1 h2 h3 cG cR cS
    cases t1 <;> simp
    cases t2 <;> simp
  clear h1 h2 h3
  rcases hst with rfl | ⟨rfl, rfl⟩ | ⟨rfl, rfl, rfl⟩ | ⟨rfl, rfl, rfl⟩
  all_goals
    refine WQ.region (by kernel_rfl) (by kernel_rfl) ?_
    repeat (first | (apply WQ.skip; (case hw => rfl); intro K hK; go_simp; apply hK; clear hK K) | (apply WQ.want; (case hw => rfl); intro K hK; go_simp; first | (apply hK; clear hK K) | (apply Exists.intro; apply And.intro; (case left => intro p; (first | (go_at_call 76; exact cG _ _) | (go_at_call 74; exact cR _ _) | (go_at_call 61; exact cA _ _) | (go_at_call 89; exact cS _ _))); apply hK; clear hK K)))
    refine WQ.nil ?_
    intro w1 hw1
    have T1 := HT.out.call (below_rg hw1)
    have HT1 : Hid (Two w w1 #[.int .i64 (s 0), .int .i64 (s 1), .int .i64 (s 2), .int .i64 (s 3), .int .i64 (s 4), .int .i64 (s 5), .int .i64 (s 6), .int .i64 (s 7), .int .i64 (s 8)] #[.int .i64 r.kind, .int .i64 r.seq, .string r.name, .int .i64 r.length, .int .i64 r.group, .int .i64 r.row, .slice ao6 r.rows.1 cap6, .slice ao7 r.data.1 cap7, .slice ao8 r.delta.1 cap8] 31 45) := T1
    clear hw1 x0_0 kx0_0 y0_0 ky0_0 x0_1 kx0_1 y0_1 ky0_1 x0_2 kx0_2 y0_2 ky0_2 x0_3 kx0_3 y0_3 ky0_3 x0_4 kx0_4 y0_4 ky0_4 x0_5 kx0_5 y0_5 ky0_5 x0_6 kx0_6 y0_6 ky0_6 x0_7 kx0_7 y0_7 ky0_7 x0_8 kx0_8 y0_8 ky0_8 cG cR cA cS
  · clear T1
    go_wp2
    go_ret
    exact boolNo rfl (fun h => by have := H1.out.2 h.1; simp at this) HT1.out.bel
  · clear T1
    go_wp2
    go_ret
    exact boolNo rfl (fun h => by have := H2.out.2 h.2.1; simp at this) HT1.out.bel
  · clear T1
    go_wp2
    go_ret
    exact boolNo rfl (fun h => by have := H3.out.2 h.2.2.1; simp at this) HT1.out.bel
  have HG : Hid (InP r.group 0 (s 0 + s 1 - 1)) := H1.out.1 rfl
  have HR : Hid (RiseP r.rows.1 r.rows.2 (s 0 + s 1 - 1)) := H3.out.1 rfl
  have HW : Hid (InP r.row 0 (s 4 - 1)) := H2.out.1 rfl
  clear H1 H2 H3
  have x1_0 : w1.cell? ⟨w.heap.size, 0, none⟩ = some (.int .i64 (s 0)) := T1.b1.cell 0
  have kx1_0 := cell_regrown x1_0
  have x1_1 : w1.cell? ⟨w.heap.size, 1, none⟩ = some (.int .i64 (s 1)) := T1.b1.cell 1
  have kx1_1 := cell_regrown x1_1
  have x1_2 : w1.cell? ⟨w.heap.size, 2, none⟩ = some (.int .i64 (s 2)) := T1.b1.cell 2
  have kx1_2 := cell_regrown x1_2
  have x1_3 : w1.cell? ⟨w.heap.size, 3, none⟩ = some (.int .i64 (s 3)) := T1.b1.cell 3
  have kx1_3 := cell_regrown x1_3
  have x1_4 : w1.cell? ⟨w.heap.size, 4, none⟩ = some (.int .i64 (s 4)) := T1.b1.cell 4
  have kx1_4 := cell_regrown x1_4
  have x1_5 : w1.cell? ⟨w.heap.size, 5, none⟩ = some (.int .i64 (s 5)) := T1.b1.cell 5
  have kx1_5 := cell_regrown x1_5
  have x1_6 : w1.cell? ⟨w.heap.size, 6, none⟩ = some (.int .i64 (s 6)) := T1.b1.cell 6
  have kx1_6 := cell_regrown x1_6
  have x1_7 : w1.cell? ⟨w.heap.size, 7, none⟩ = some (.int .i64 (s 7)) := T1.b1.cell 7
  have kx1_7 := cell_regrown x1_7
  have x1_8 : w1.cell? ⟨w.heap.size, 8, none⟩ = some (.int .i64 (s 8)) := T1.b1.cell 8
  have kx1_8 := cell_regrown x1_8
  have y1_0 : w1.cell? ⟨w.heap.size + 1, 0, none⟩ = some (.int .i64 r.kind) := T1.b2.cell 0
  have ky1_0 := cell_regrown y1_0
  have y1_1 : w1.cell? ⟨w.heap.size + 1, 1, none⟩ = some (.int .i64 r.seq) := T1.b2.cell 1
  have ky1_1 := cell_regrown y1_1
  have y1_2 : w1.cell? ⟨w.heap.size + 1, 2, none⟩ = some (.string r.name) := T1.b2.cell 2
  have ky1_2 := cell_regrown y1_2
  have y1_3 : w1.cell? ⟨w.heap.size + 1, 3, none⟩ = some (.int .i64 r.length) := T1.b2.cell 3
  have ky1_3 := cell_regrown y1_3
  have y1_4 : w1.cell? ⟨w.heap.size + 1, 4, none⟩ = some (.int .i64 r.group) := T1.b2.cell 4
  have ky1_4 := cell_regrown y1_4
  have y1_5 : w1.cell? ⟨w.heap.size + 1, 5, none⟩ = some (.int .i64 r.row) := T1.b2.cell 5
  have ky1_5 := cell_regrown y1_5
  have y1_6 : w1.cell? ⟨w.heap.size + 1, 6, none⟩ = some (.slice ao6 r.rows.1 cap6) := T1.b2.cell 6
  have ky1_6 := cell_regrown y1_6
  have y1_7 : w1.cell? ⟨w.heap.size + 1, 7, none⟩ = some (.slice ao7 r.data.1 cap7) := T1.b2.cell 7
  have ky1_7 := cell_regrown y1_7
  have y1_8 : w1.cell? ⟨w.heap.size + 1, 8, none⟩ = some (.slice ao8 r.delta.1 cap8) := T1.b2.cell 8
  have ky1_8 := cell_regrown y1_8
  obtain ⟨t4, h4⟩ : ∃ b, ((r.data.1 : Int) == s 2 * 4) = b := ⟨_, rfl⟩
  obtain ⟨b5, h5⟩ : ∃ b, ((r.delta.1 : Int) != s 0 + s 1) = b := ⟨_, rfl⟩
  have cL := q_below (W := w1) (fun w' _ => rowLong_b HS.out (ao := ao7) (cap := cap7) (by omega) h4 w')
  have cA := q_below (W := w1) (fun w' _ => groupCount_any s HS.out w')
  unfold shapeV at cL cA
  clear T1
  have H4 : Hid (t4 = true ↔ (r.data.1 : Int) = s 2 * 4) := by
    show t4 = true ↔ _
    rw [← h4]
    simp
  have H5 : Hid (b5 = false ↔ (r.delta.1 : Int) = s 0 + s 1) := by
    show b5 = false ↔ _
    rw [← h5]
    simp
  have hst : t4 = false ∨ (t4 = true ∧ b5 = true) ∨ (t4 = true ∧ b5 = false) := by
    clear H4 H5 h4 h5 cL
    cases t4 <;> simp
  clear h4
  go_wp2
  rcases hst with rfl | ⟨rfl, rfl⟩ | ⟨rfl, rfl⟩
  all_goals
    refine WQ.region (by kernel_rfl) (by kernel_rfl) ?_
    repeat (first | (apply WQ.skip; (case hw => rfl); intro K hK; go_simp; apply hK; clear hK K) | (apply WQ.want; (case hw => rfl); intro K hK; go_simp; first | (apply hK; clear hK K) | (apply Exists.intro; apply And.intro; (case left => intro p; (first | (go_at_call 75; exact cL _ _) | (go_at_call 61; exact cA _ _))); apply hK; clear hK K)))
    refine WQ.nil ?_
    intro w2 hw2
    have T2 := HT1.out.call (below_rg hw2)
    have HT2 : Hid (Two w w2 #[.int .i64 (s 0), .int .i64 (s 1), .int .i64 (s 2), .int .i64 (s 3), .int .i64 (s 4), .int .i64 (s 5), .int .i64 (s 6), .int .i64 (s 7), .int .i64 (s 8)] #[.int .i64 r.kind, .int .i64 r.seq, .string r.name, .int .i64 r.length, .int .i64 r.group, .int .i64 r.row, .slice ao6 r.rows.1 cap6, .slice ao7 r.data.1 cap7, .slice ao8 r.delta.1 cap8] 31 45) := T2
    clear hw2 x1_0 kx1_0 y1_0 ky1_0 x1_1 kx1_1 y1_1 ky1_1 x1_2 kx1_2 y1_2 ky1_2 x1_3 kx1_3 y1_3 ky1_3 x1_4 kx1_4 y1_4 ky1_4 x1_5 kx1_5 y1_5 ky1_5 x1_6 kx1_6 y1_6 ky1_6 x1_7 kx1_7 y1_7 ky1_7 x1_8 kx1_8 y1_8 ky1_8 cL cA
  · clear T2
    go_wp2
    go_ret
    exact boolNo rfl (fun h => by have := H4.out.2 h.2.2.2.1; simp at this) HT2.out.bel
  · clear T2
    go_wp2
    go_ret
    exact boolNo rfl (fun h => by have := H5.out.2 h.2.2.2.2.1; simp at this) HT2.out.bel
  have HDA : Hid ((r.data.1 : Int) = s 2 * 4) := H4.out.1 rfl
  have hlen : (r.delta.1 : Int) = s 0 + s 1 := H5.out.1 rfl
  have HLEN : Hid ((r.delta.1 : Int) = s 0 + s 1) := hlen
  clear H4 H5 h5
  obtain ⟨b8, off8, he8, hb8, hcell8⟩ := HC8.out (by omega)
  subst he8
  have HCE : Hid (∀ i, i < r.delta.1 → w.cell? ⟨b8, off8 + i, none⟩ = some (.int .u8 (r.delta.2 i))) := hcell8
  have y2_6 : w2.cell? ⟨w.heap.size + 1, 6, none⟩ = some (.slice ao6 r.rows.1 cap6) := T2.b2.cell 6
  clear hcell8 T2 HC8 hlen
  go_wp2
  go_loopw [43] (fun i wr => ∃ k : Nat, k ≤ r.rows.1 ∧ i = .int .i64 k ∧ (∀ i, i < k → r.delta.2 (r.rows.2 i).toNat ≠ 0) ∧ Two w wr #[.int .i64 (s 0), .int .i64 (s 1), .int .i64 (s 2), .int .i64 (s 3), .int .i64 (s 4), .int .i64 (s 5), .int .i64 (s 6), .int .i64 (s 7), .int .i64 (s 8)] #[.int .i64 r.kind, .int .i64 r.seq, .string r.name, .int .i64 r.length, .int .i64 r.group, .int .i64 r.row, .slice ao6 r.rows.1 cap6, .slice ao7 r.data.1 cap7, .slice (some ⟨b8, off8, none⟩) r.delta.1 cap8] 31 45) (fun i _ => r.rows.1 - (intOf i).toNat)
  case atStart => exact ⟨0, Nat.zero_le _, rfl, fun i hi => by omega, HT2.out⟩
  case round =>
    obtain ⟨k, hk, rfl, hal, T3⟩ := hrel
    have HAL : Hid (∀ i, i < k → r.delta.2 (r.rows.2 i).toNat ≠ 0) := hal
    have H3 : Hid (Two w wr #[.int .i64 (s 0), .int .i64 (s 1), .int .i64 (s 2), .int .i64 (s 3), .int .i64 (s 4), .int .i64 (s 5), .int .i64 (s 6), .int .i64 (s 7), .int .i64 (s 8)] #[.int .i64 r.kind, .int .i64 r.seq, .string r.name, .int .i64 r.length, .int .i64 r.group, .int .i64 r.row, .slice ao6 r.rows.1 cap6, .slice ao7 r.data.1 cap7, .slice (some ⟨b8, off8, none⟩) r.delta.1 cap8] 31 45) := T3
    clear hal y2_6
    have y3_8 : wr.cell? ⟨w.heap.size + 1, 8, none⟩ = some (.slice (some ⟨b8, off8, none⟩) r.delta.1 cap8) := T3.b2.cell 8
    have y3_4 : wr.cell? ⟨w.heap.size + 1, 4, none⟩ = some (.int .i64 r.group) := T3.b2.cell 4
    by_cases hlt : k < r.rows.1
    · obtain ⟨b6, off6, he6, hb6, hcell6⟩ := HC6.out (by omega)
      subst he6
      have hrk := HR.out k hlt
      have hl := HLEN.out
      obtain ⟨Y, hY⟩ : ∃ Y : Nat, r.rows.2 k = (Y : Int) := ⟨(r.rows.2 k).toNat, by omega⟩
      have hYl : Y < r.delta.1 := by omega
      have c6 : wr.cell? ⟨b6, off6 + k, none⟩ = some (.int .i64 (Y : Int)) := by
        rw [← hY]
        exact (T3.bel.cell (p := ⟨b6, off6 + k, none⟩) (by show b6 < w.heap.size; omega)).trans (hcell6 k hlt)
      have c8 : wr.cell? ⟨b8, off8 + Y, none⟩ = some (.int .u8 (r.delta.2 Y)) := (T3.bel.cell (p := ⟨b8, off8 + Y, none⟩) (by show b8 < w.heap.size; omega)).trans (HCE.out Y hYl)
      have HY : Hid (r.rows.2 k = (Y : Int)) := hY
      clear hcell6 hrk hY T3 hl
      obtain ⟨z0, hz0⟩ : ∃ x, x = r.delta.2 Y := ⟨_, rfl⟩
      have HZ0 : Hid (z0 = r.delta.2 Y) := hz0
      rw [← hz0] at c8
      clear hz0
      by_cases hz : z0 = 0
      · subst hz
        go_wp2
        go_ret
        exact boolNo rfl (fun h => h.2.2.2.2.2.2 k hlt (by rw [HY.out]; exact HZ0.out.symm)) H3.out.bel
      · have hz' : ((z0 : Int) == 0) = false := by simp; omega
        go_wp2
        go_roundw
        case rel => exact ⟨k + 1, by omega, by go_num, fun i hi => by
                      by_cases c : i = k
                      · subst c
                        rw [HY.out, Int.toNat_natCast, ← HZ0.out]
                        exact hz
                      · exact HAL.out i (by omega), H3.out⟩
        case measure => simp [intOf]; omega
    · obtain rfl : k = r.rows.1 := by omega
      have hg := HG.out
      have hl := HLEN.out
      unfold InP at hg
      obtain ⟨G, hG⟩ : ∃ G : Nat, r.group = (G : Int) := ⟨r.group.toNat, by omega⟩
      have hGl : G < r.delta.1 := by omega
      have d0 : wr.cell? ⟨b8, off8 + G, none⟩ = some (.int .u8 (r.delta.2 G)) := (T3.bel.cell (p := ⟨b8, off8 + G, none⟩) (by show b8 < w.heap.size; omega)).trans (HCE.out G hGl)
      rw [hG] at y3_4
      have HGG : Hid (r.group = (G : Int)) := hG
      obtain ⟨x0, hx0⟩ : ∃ x, x = r.delta.2 G := ⟨_, rfl⟩
      have HX0 : Hid (x0 = r.delta.2 G) := hx0
      rw [← hx0] at d0
      clear hx0 hG hg hl T3
      by_cases hz : x0 = 0
      · subst hz
        go_wp2
        go_ret
        exact boolYes rfl ⟨HG.out, HW.out, HR.out, HDA.out, HLEN.out, by rw [HGG.out, Int.toNat_natCast]; exact HX0.out.symm, HAL.out⟩ H3.out.bel
      · have hz' : ((x0 : Int) == 0) = false := by simp; omega
        go_wp2
        go_ret
        exact boolNo rfl (fun h => hz (by rw [HX0.out, ← h.2.2.2.2.2.1, HGG.out, Int.toNat_natCast])) H3.out.bel
end Go.Proofs.Ytgpglgchbimmaaa

namespace Go.Proofs.Ytgpglgchbimmaaa
open Go.RowKit F256
set_option linter.unusedVariables false
set_option linter.unusedSimpArgs false
set_option maxHeartbeats 4000000 in
theorem unnamed1 (seq : Int) (name : ByteArray) (length group row : Int) (rows : Nat × (Nat → Int)) (data delta : Nat × (Nat → Nat)) (ao6 ao7 ao8 : Option Addr) (cap6 cap7 cap8 : Nat) (w : World) :
    Calls Try.prog 50 #[.agg #[.int .i64 1, .int .i64 seq, .string name, .int .i64 length, .int .i64 group, .int .i64 row, .slice ao6 rows.1 cap6, .slice ao7 data.1 cap7, .slice ao8 delta.1 cap8]] w fun e w' => e = .returned (.agg #[.int .i64 0, .int .i64 0, .string ByteArray.empty, .int .i64 0, .int .i64 group, .int .i64 row, .slice none 0 0, .slice none 0 0, .slice ao8 delta.1 cap8]) ∧ Below w.heap.size w w' := by
  have B0 : Below w.heap.size w ((w.alloc (.cells #[.int .i64 1, .int .i64 seq, .string name, .int .i64 length, .int .i64 group, .int .i64 row, .slice ao6 rows.1 cap6, .slice ao7 data.1 cap7, .slice ao8 delta.1 cap8] 45)).alloc (.cells #[.int .i64 0, .int .i64 0, .string ByteArray.empty, .int .i64 0, .int .i64 group, .int .i64 row, .slice none 0 0, .slice none 0 0, .slice ao8 delta.1 cap8] 45)) := ((Below.refl _ _).alloc (Nat.le_refl _) _).alloc (by simp) _
  go_enter Try.func50, Try.ntmps50
  go_wp2
  exact bodyPost_ret (v := .agg #[.int .i64 0, .int .i64 0, .string ByteArray.empty, .int .i64 0, .int .i64 group, .int .i64 row, .slice none 0 0, .slice none 0 0, .slice ao8 delta.1 cap8]) (by simp [results, Try.results50, go_sem]; try rfl) rfl ⟨rfl, B0⟩
set_option maxHeartbeats 4000000 in
theorem unnamed2 (seq : Int) (name : ByteArray) (length group row : Int) (rows : Nat × (Nat → Int)) (data delta : Nat × (Nat → Nat)) (ao6 ao7 ao8 : Option Addr) (cap6 cap7 cap8 : Nat) (w : World) :
    Calls Try.prog 50 #[.agg #[.int .i64 2, .int .i64 seq, .string name, .int .i64 length, .int .i64 group, .int .i64 row, .slice ao6 rows.1 cap6, .slice ao7 data.1 cap7, .slice ao8 delta.1 cap8]] w fun e w' => e = .returned (.agg #[.int .i64 0, .int .i64 0, .string name, .int .i64 length, .int .i64 0, .int .i64 0, .slice ao6 rows.1 cap6, .slice none 0 0, .slice none 0 0]) ∧ Below w.heap.size w w' := by
  have B0 : Below w.heap.size w ((w.alloc (.cells #[.int .i64 2, .int .i64 seq, .string name, .int .i64 length, .int .i64 group, .int .i64 row, .slice ao6 rows.1 cap6, .slice ao7 data.1 cap7, .slice ao8 delta.1 cap8] 45)).alloc (.cells #[.int .i64 0, .int .i64 0, .string name, .int .i64 length, .int .i64 0, .int .i64 0, .slice ao6 rows.1 cap6, .slice none 0 0, .slice none 0 0] 45)) := ((Below.refl _ _).alloc (Nat.le_refl _) _).alloc (by simp) _
  go_enter Try.func50, Try.ntmps50
  go_wp2
  exact bodyPost_ret (v := .agg #[.int .i64 0, .int .i64 0, .string name, .int .i64 length, .int .i64 0, .int .i64 0, .slice ao6 rows.1 cap6, .slice none 0 0, .slice none 0 0]) (by simp [results, Try.results50, go_sem]; try rfl) rfl ⟨rfl, B0⟩
set_option maxHeartbeats 4000000 in
theorem unnamed3 (seq : Int) (name : ByteArray) (length group row : Int) (rows : Nat × (Nat → Int)) (data delta : Nat × (Nat → Nat)) (ao6 ao7 ao8 : Option Addr) (cap6 cap7 cap8 : Nat) (w : World) :
    Calls Try.prog 50 #[.agg #[.int .i64 3, .int .i64 seq, .string name, .int .i64 length, .int .i64 group, .int .i64 row, .slice ao6 rows.1 cap6, .slice ao7 data.1 cap7, .slice ao8 delta.1 cap8]] w fun e w' => e = .returned (.agg #[.int .i64 0, .int .i64 0, .string name, .int .i64 length, .int .i64 0, .int .i64 row, .slice ao6 rows.1 cap6, .slice ao7 data.1 cap7, .slice ao8 delta.1 cap8]) ∧ Below w.heap.size w w' := by
  have B0 : Below w.heap.size w ((w.alloc (.cells #[.int .i64 3, .int .i64 seq, .string name, .int .i64 length, .int .i64 group, .int .i64 row, .slice ao6 rows.1 cap6, .slice ao7 data.1 cap7, .slice ao8 delta.1 cap8] 45)).alloc (.cells #[.int .i64 0, .int .i64 0, .string name, .int .i64 length, .int .i64 0, .int .i64 row, .slice ao6 rows.1 cap6, .slice ao7 data.1 cap7, .slice ao8 delta.1 cap8] 45)) := ((Below.refl _ _).alloc (Nat.le_refl _) _).alloc (by simp) _
  go_enter Try.func50, Try.ntmps50
  go_wp2
  exact bodyPost_ret (v := .agg #[.int .i64 0, .int .i64 0, .string name, .int .i64 length, .int .i64 0, .int .i64 row, .slice ao6 rows.1 cap6, .slice ao7 data.1 cap7, .slice ao8 delta.1 cap8]) (by simp [results, Try.results50, go_sem]; try rfl) rfl ⟨rfl, B0⟩
set_option maxHeartbeats 4000000 in
theorem unnamed4 (seq : Int) (name : ByteArray) (length group row : Int) (rows : Nat × (Nat → Int)) (data delta : Nat × (Nat → Nat)) (ao6 ao7 ao8 : Option Addr) (cap6 cap7 cap8 : Nat) (w : World) :
    Calls Try.prog 50 #[.agg #[.int .i64 4, .int .i64 seq, .string name, .int .i64 length, .int .i64 group, .int .i64 row, .slice ao6 rows.1 cap6, .slice ao7 data.1 cap7, .slice ao8 delta.1 cap8]] w fun e w' => e = .returned (.agg #[.int .i64 0, .int .i64 0, .string name, .int .i64 length, .int .i64 0, .int .i64 0, .slice none 0 0, .slice none 0 0, .slice none 0 0]) ∧ Below w.heap.size w w' := by
  have B0 : Below w.heap.size w ((w.alloc (.cells #[.int .i64 4, .int .i64 seq, .string name, .int .i64 length, .int .i64 group, .int .i64 row, .slice ao6 rows.1 cap6, .slice ao7 data.1 cap7, .slice ao8 delta.1 cap8] 45)).alloc (.cells #[.int .i64 0, .int .i64 0, .string name, .int .i64 length, .int .i64 0, .int .i64 0, .slice none 0 0, .slice none 0 0, .slice none 0 0] 45)) := ((Below.refl _ _).alloc (Nat.le_refl _) _).alloc (by simp) _
  go_enter Try.func50, Try.ntmps50
  go_wp2
  exact bodyPost_ret (v := .agg #[.int .i64 0, .int .i64 0, .string name, .int .i64 length, .int .i64 0, .int .i64 0, .slice none 0 0, .slice none 0 0, .slice none 0 0]) (by simp [results, Try.results50, go_sem]; try rfl) rfl ⟨rfl, B0⟩
/-- nothing is in it -/
def BlankQ (kd sq ln gr rw_ : Int) (nm : ByteArray) (n6 n7 n8 : Nat) : Prop := kd = 0 ∧ sq = 0 ∧ EmptyQ nm ln gr rw_ n6 n7 n8
set_option maxHeartbeats 8000000 in
theorem isBlank_any (kd sq ln gr rw_ : Int) (nm : ByteArray) (ao6 ao7 ao8 : Option Addr) (n6 n7 n8 cap6 cap7 cap8 : Nat) (w : World) :
    Calls Try.prog 49 #[.agg #[.int .i64 kd, .int .i64 sq, .string nm, .int .i64 ln, .int .i64 gr, .int .i64 rw_, .slice ao6 n6 cap6, .slice ao7 n7 cap7, .slice ao8 n8 cap8]] w (BoolP (BlankQ kd sq ln gr rw_ nm n6 n7 n8) w) := by
  have B0 : Hid (Below w.heap.size w (w.alloc (.cells #[.int .i64 kd, .int .i64 sq, .string nm, .int .i64 ln, .int .i64 gr, .int .i64 rw_, .slice ao6 n6 cap6, .slice ao7 n7 cap7, .slice ao8 n8 cap8] 45))) := (Below.refl _ _).alloc (Nat.le_refl _) _
  obtain ⟨b0, h0⟩ : ∃ b, (kd == 0) = b := ⟨_, rfl⟩
  obtain ⟨b1, h1⟩ : ∃ b, (sq == 0) = b := ⟨_, rfl⟩
  obtain ⟨b2, h2⟩ : ∃ b, (ln == 0) = b := ⟨_, rfl⟩
  obtain ⟨b3, h3⟩ : ∃ b, (gr == 0) = b := ⟨_, rfl⟩
  obtain ⟨b4, h4⟩ : ∃ b, (rw_ == 0) = b := ⟨_, rfl⟩
  obtain ⟨b5, h5⟩ : ∃ b, nm.toList.isEmpty = b := ⟨_, rfl⟩
  obtain ⟨b6, h6⟩ : ∃ b, ((n6 : Int) == 0) = b := ⟨_, rfl⟩
  obtain ⟨b7, h7⟩ : ∃ b, ((n7 : Int) == 0) = b := ⟨_, rfl⟩
  obtain ⟨b8, h8⟩ : ∃ b, ((n8 : Int) == 0) = b := ⟨_, rfl⟩
  have HE : Hid (BlankQ kd sq ln gr rw_ nm n6 n7 n8 ↔ (b0 = true ∧ b1 = true ∧ b2 = true ∧ b3 = true ∧ b4 = true ∧ b5 = true ∧ b6 = true ∧ b7 = true ∧ b8 = true)) := by
    show BlankQ kd sq ln gr rw_ nm n6 n7 n8 ↔ _
    rw [← h0, ← h1, ← h2, ← h3, ← h4, ← h5, ← h6, ← h7, ← h8, nm_iff]
    unfold BlankQ EmptyQ
    simp
    intro _ _
    constructor
    · rintro ⟨h2, h3, h4, h5, h6⟩
      exact ⟨h3, h4, h5, h2, h6⟩
    · rintro ⟨h3, h4, h5, h2, h6⟩
      exact ⟨h2, h3, h4, h5, h6⟩
  have hs : (b0 = false) ∨ (b0 = true ∧ b1 = false) ∨ (b0 = true ∧ b1 = true ∧ b2 = false) ∨ (b0 = true ∧ b1 = true ∧ b2 = true ∧ b3 = false) ∨ (b0 = true ∧ b1 = true ∧ b2 = true ∧ b3 = true ∧ b4 = false) ∨ (b0 = true ∧ b1 = true ∧ b2 = true ∧ b3 = true ∧ b4 = true ∧ b5 = false) ∨ (b0 = true ∧ b1 = true ∧ b2 = true ∧ b3 = true ∧ b4 = true ∧ b5 = true ∧ b6 = false) ∨ (b0 = true ∧ b1 = true ∧ b2 = true ∧ b3 = true ∧ b4 = true ∧ b5 = true ∧ b6 = true ∧ b7 = false) ∨ (b0 = true ∧ b1 = true ∧ b2 = true ∧ b3 = true ∧ b4 = true ∧ b5 = true ∧ b6 = true ∧ b7 = true ∧ b8 = false) ∨ (b0 = true ∧ b1 = true ∧ b2 = true ∧ b3 = true ∧ b4 = true ∧ b5 = true ∧ b6 = true ∧ b7 = true ∧ b8 = true) := by
    clear HE h0 h1 h2 h3 h4 h5 h6 h7 h8
    cases b0 <;> simp
    cases b1 <;> simp
    cases b2 <;> simp
    cases b3 <;> simp
    cases b4 <;> simp
    cases b5 <;> simp
    cases b6 <;> simp
    cases b7 <;> simp
  go_enter Try.func49, Try.ntmps49
  rcases hs with rfl | ⟨rfl, rfl⟩ | ⟨rfl, rfl, rfl⟩ | ⟨rfl, rfl, rfl, rfl⟩ | ⟨rfl, rfl, rfl, rfl, rfl⟩ | ⟨rfl, rfl, rfl, rfl, rfl, rfl⟩ | ⟨rfl, rfl, rfl, rfl, rfl, rfl, rfl⟩ | ⟨rfl, rfl, rfl, rfl, rfl, rfl, rfl, rfl⟩ | ⟨rfl, rfl, rfl, rfl, rfl, rfl, rfl, rfl, rfl⟩ | ⟨rfl, rfl, rfl, rfl, rfl, rfl, rfl, rfl, rfl⟩
  all_goals
    go_wp2
    go_ret
    first
      | exact boolNo rfl (fun h => by have := HE.out.1 h; simp at this) B0.out
      | exact boolYes rfl (HE.out.2 (by simp)) B0.out
end Go.Proofs.Ytgpglgchbimmaaa

namespace Go.Proofs.Ytgpglgchbimmaaa
open Go.RowKit F256
set_option linter.unusedVariables false
set_option linter.unusedSimpArgs false

set_option maxHeartbeats 8000000 in

theorem l5Item_any (s : Nat → Int) (hs : OkShape s) (r : RecD) (cs : List Value) (hi : Nat) (w : World) (h : layRec.rd w hi r cs) (hhi : hi ≤ w.heap.size) :
    Calls Try.prog 41 #[shapeV s, .agg cs.toArray] w (BoolP (ItemP s r) w) := by
  obtain ⟨ao6, cap6, ao7, cap7, ao8, cap8, rfl, g6, g7, g8, -, -, -, hl, -⟩ := Rec_rd h
  clear h g7 g8
  have hs2 : 1 ≤ s 2 ∧ s 2 ≤ 3 ∧ 1 ≤ s 4 ∧ s 4 ≤ 6 := by
    obtain ⟨_, h2, h3, _⟩ := hs
    unfold Shp at h2
    omega
  obtain ⟨v6, e6, ⟨h6, hcp6⟩, _⟩ := g6
  cases e6
  have H6 : Hid (RdI w hi (.slice ao6 r.rows.1 cap6) r.rows.1 r.rows.2) := h6
  have HCP : Hid (CapP (.slice ao6 r.rows.1 cap6) r.rows.1) := hcp6
  have hm6 := h6.mx
  unfold maxLen at hm6
  clear h6 hcp6
  have T0 := two_newb w #[.int .i64 (s 0), .int .i64 (s 1), .int .i64 (s 2), .int .i64 (s 3), .int .i64 (s 4), .int .i64 (s 5), .int .i64 (s 6), .int .i64 (s 7), .int .i64 (s 8)] #[.int .i64 r.kind, .int .i64 r.seq, .string r.name, .int .i64 r.length, .int .i64 r.group, .int .i64 r.row, .slice ao6 r.rows.1 cap6, .slice ao7 r.data.1 cap7, .slice ao8 r.delta.1 cap8] 31 45
  have CLong := fun w' => l4Long_any s (by omega) (by omega) r.length w'
  have HIT : Hid (ItemP s r ↔ ItemP s r) := Iff.rfl
  unfold shapeV
  unfold shapeV at CLong
  go_enter Try.func41, Try.ntmps41
  by_cases hl1 : r.length = -1
  · have HL : Hid (r.length = -1) := hl1
    have e1 : (r.length == -1) = true := by simp [hl1]
    have HB : Hid (Below w.heap.size w ((w.alloc (.cells #[.int .i64 (s 0), .int .i64 (s 1), .int .i64 (s 2), .int .i64 (s 3), .int .i64 (s 4), .int .i64 (s 5), .int .i64 (s 6), .int .i64 (s 7), .int .i64 (s 8)] 31)).alloc (.cells #[.int .i64 r.kind, .int .i64 r.seq, .string r.name, .int .i64 r.length, .int .i64 r.group, .int .i64 r.row, .slice ao6 r.rows.1 cap6, .slice ao7 r.data.1 cap7, .slice ao8 r.delta.1 cap8] 45))) := T0.bel
    clear T0 CLong hl1
    obtain ⟨b0, h0⟩ : ∃ b, ((r.data.1 : Int) == 0) = b := ⟨_, rfl⟩
    obtain ⟨b1, h1⟩ : ∃ b, ((r.rows.1 : Int) == 0) = b := ⟨_, rfl⟩
    have HE : Hid (ItemP s r ↔ (b0 = true ∧ b1 = true)) := by
      show ItemP s r ↔ _
      rw [← h0, ← h1]
      unfold ItemP
      simp [HL.out]
    have hst : b0 = false ∨ (b0 = true ∧ b1 = false) ∨ (b0 = true ∧ b1 = true) := by
      clear HE h0 h1
      cases b0 <;> simp
    rcases hst with rfl | ⟨rfl, rfl⟩ | ⟨rfl, rfl⟩
    all_goals
      go_wp2
      go_ret
      first
        | exact boolNo rfl (fun h => by have := HE.out.1 h; simp at this) HB.out
        | exact boolYes rfl (HE.out.2 (by simp)) HB.out
  · have e1 : (r.length == -1) = false := by simp [hl1]
    have HL : Hid (r.length ≠ -1) := hl1
    clear hl1
    go_wp2_with fail
    refine (CLong _).mono ?_
    rintro e w1 ⟨c, rfl, hc, b1⟩
    have T1 : Two w w1 #[.int .i64 (s 0), .int .i64 (s 1), .int .i64 (s 2), .int .i64 (s 3), .int .i64 (s 4), .int .i64 (s 5), .int .i64 (s 6), .int .i64 (s 7), .int .i64 (s 8)] #[.int .i64 r.kind, .int .i64 r.seq, .string r.name, .int .i64 r.length, .int .i64 r.group, .int .i64 r.row, .slice ao6 r.rows.1 cap6, .slice ao7 r.data.1 cap7, .slice ao8 r.delta.1 cap8] 31 45 := T0.call b1
    clear b1 T0 CLong
    have HT1 : Hid (Two w w1 #[.int .i64 (s 0), .int .i64 (s 1), .int .i64 (s 2), .int .i64 (s 3), .int .i64 (s 4), .int .i64 (s 5), .int .i64 (s 6), .int .i64 (s 7), .int .i64 (s 8)] #[.int .i64 r.kind, .int .i64 r.seq, .string r.name, .int .i64 r.length, .int .i64 r.group, .int .i64 r.row, .slice ao6 r.rows.1 cap6, .slice ao7 r.data.1 cap7, .slice ao8 r.delta.1 cap8] 31 45) := T1
    have x1_0 : w1.cell? ⟨w.heap.size, 0, none⟩ = some (.int .i64 (s 0)) := T1.b1.cell 0
    have kx1_0 := cell_regrown x1_0
    have x1_1 : w1.cell? ⟨w.heap.size, 1, none⟩ = some (.int .i64 (s 1)) := T1.b1.cell 1
    have kx1_1 := cell_regrown x1_1
    have x1_2 : w1.cell? ⟨w.heap.size, 2, none⟩ = some (.int .i64 (s 2)) := T1.b1.cell 2
    have kx1_2 := cell_regrown x1_2
    have x1_3 : w1.cell? ⟨w.heap.size, 3, none⟩ = some (.int .i64 (s 3)) := T1.b1.cell 3
    have kx1_3 := cell_regrown x1_3
    have x1_4 : w1.cell? ⟨w.heap.size, 4, none⟩ = some (.int .i64 (s 4)) := T1.b1.cell 4
    have kx1_4 := cell_regrown x1_4
    have x1_5 : w1.cell? ⟨w.heap.size, 5, none⟩ = some (.int .i64 (s 5)) := T1.b1.cell 5
    have kx1_5 := cell_regrown x1_5
    have x1_6 : w1.cell? ⟨w.heap.size, 6, none⟩ = some (.int .i64 (s 6)) := T1.b1.cell 6
    have kx1_6 := cell_regrown x1_6
    have x1_7 : w1.cell? ⟨w.heap.size, 7, none⟩ = some (.int .i64 (s 7)) := T1.b1.cell 7
    have kx1_7 := cell_regrown x1_7
    have x1_8 : w1.cell? ⟨w.heap.size, 8, none⟩ = some (.int .i64 (s 8)) := T1.b1.cell 8
    have kx1_8 := cell_regrown x1_8
    have y1_0 : w1.cell? ⟨w.heap.size + 1, 0, none⟩ = some (.int .i64 r.kind) := T1.b2.cell 0
    have ky1_0 := cell_regrown y1_0
    have y1_1 : w1.cell? ⟨w.heap.size + 1, 1, none⟩ = some (.int .i64 r.seq) := T1.b2.cell 1
    have ky1_1 := cell_regrown y1_1
    have y1_2 : w1.cell? ⟨w.heap.size + 1, 2, none⟩ = some (.string r.name) := T1.b2.cell 2
    have ky1_2 := cell_regrown y1_2
    have y1_3 : w1.cell? ⟨w.heap.size + 1, 3, none⟩ = some (.int .i64 r.length) := T1.b2.cell 3
    have ky1_3 := cell_regrown y1_3
    have y1_4 : w1.cell? ⟨w.heap.size + 1, 4, none⟩ = some (.int .i64 r.group) := T1.b2.cell 4
    have ky1_4 := cell_regrown y1_4
    have y1_5 : w1.cell? ⟨w.heap.size + 1, 5, none⟩ = some (.int .i64 r.row) := T1.b2.cell 5
    have ky1_5 := cell_regrown y1_5
    have y1_6 : w1.cell? ⟨w.heap.size + 1, 6, none⟩ = some (.slice ao6 r.rows.1 cap6) := T1.b2.cell 6
    have ky1_6 := cell_regrown y1_6
    have y1_7 : w1.cell? ⟨w.heap.size + 1, 7, none⟩ = some (.slice ao7 r.data.1 cap7) := T1.b2.cell 7
    have ky1_7 := cell_regrown y1_7
    have y1_8 : w1.cell? ⟨w.heap.size + 1, 8, none⟩ = some (.slice ao8 r.delta.1 cap8) := T1.b2.cell 8
    have ky1_8 := cell_regrown y1_8
    clear T1
    by_cases hok : 1 ≤ r.length ∧ r.length ≤ 3 * (s 2 * 4)
    · obtain rfl : c = 0 := by omega
      have HOK : Hid (1 ≤ r.length ∧ r.length ≤ 3 * (s 2 * 4)) := hok
      clear hc
      by_cases hd : 0 < r.data.1
      · have d1 : decide (0 < (r.data.1 : Int)) = true := by simp; omega
        obtain ⟨b0, h0⟩ : ∃ b, ((r.data.1 : Int) == r.length) = b := ⟨_, rfl⟩
        obtain ⟨b1, h1⟩ : ∃ b, ((r.rows.1 : Int) == 0) = b := ⟨_, rfl⟩
        have HE : Hid (ItemP s r ↔ (b0 = true ∧ b1 = true)) := by
          show ItemP s r ↔ _
          rw [← h0, ← h1]
          unfold ItemP
          have := HL.out
          have := HOK.out
          constructor
          · rintro (h | ⟨_, _, _, h | h⟩)
            · omega
            · simp; omega
            · omega
          · intro h
            simp at h
            exact .inr ⟨by omega, by omega, by omega, .inl ⟨hd, h.1, h.2⟩⟩
        have HD : Hid (0 < r.data.1) := hd
        have hst : b0 = false ∨ (b0 = true ∧ b1 = false) ∨ (b0 = true ∧ b1 = true) := by
          clear HE h0 h1
          cases b0 <;> simp
        clear hd hok
        rcases hst with rfl | ⟨rfl, rfl⟩ | ⟨rfl, rfl⟩
        all_goals
          go_wp2
          go_ret
          first
            | exact boolNo rfl (fun h => by have := HE.out.1 h; simp at this) HT1.out.bel
            | exact boolYes rfl (HE.out.2 (by simp)) HT1.out.bel
      · have d1 : decide (0 < (r.data.1 : Int)) = false := by simp; omega
        have hd0 : r.data.1 = 0 := by omega
        obtain ⟨S, hS⟩ : ∃ S, S = (r.length + s 2 * 4 - 1) / (s 2 * 4) := ⟨_, rfl⟩
        have HSV : Hid (S = (r.length + s 2 * 4 - 1) / (s 2 * 4)) := hS
        have hlb : r.length ≤ 1000000000 := by omega
        have cP := q_below (W := w1) (fun w' _ => l4Parts_any s (by omega) (by omega) r.length (by omega) (by omega) w')
        unfold shapeV at cP
        rw [← hS] at cP
        obtain ⟨t2, h2⟩ := exB (ApartP r.rows.1 r.rows.2 (s 4 - 1))
        have cQ := q_below (W := w1) (fun w' hw' => det_b (l5Apart_any _ r.rows.1 r.rows.2 hi (s 4 - 1) w' ((H6.out.below HT1.out.bel hhi).below hw' (Nat.le_trans hhi HT1.out.bel.size)) HCP.out (Nat.le_trans hhi (Nat.le_trans HT1.out.bel.size hw'.size))) h2)
        obtain ⟨b0, h0⟩ : ∃ b, ((r.rows.1 : Int) == S) = b := ⟨_, rfl⟩
        have HE : Hid (ItemP s r ↔ (b0 = true ∧ t2 = true)) := by
          show ItemP s r ↔ _
          rw [← h0, h2, hS]
          unfold ItemP
          have := HL.out
          have := HOK.out
          constructor
          · rintro (h | ⟨_, _, _, h | h⟩)
            · omega
            · omega
            · exact ⟨by simpa using h.2.1, h.2.2⟩
          · intro h
            exact .inr ⟨by omega, by omega, by omega, .inr ⟨hd0, by simpa using h.1, h.2⟩⟩
        have HD : Hid (¬ 0 < r.data.1) := hd
        have hst : b0 = false ∨ (b0 = true ∧ t2 = false) ∨ (b0 = true ∧ t2 = true) := by
          clear HE h0 h2 cQ
          cases b0 <;> simp
        have hw4 : IntKind.i64.wrap (s 4 - 1) = s 4 - 1 := by rw [IntKind.wrap_i64]; omega
        clear hd hok hS h2 hd0
        go_wp2
        rcases hst with rfl | ⟨rfl, rfl⟩ | ⟨rfl, rfl⟩
        all_goals
          refine WQ.region (by kernel_rfl) (by kernel_rfl) ?_
          repeat (first | (apply WQ.skip; (case hw => rfl); intro K hK; go_simp; apply hK; clear hK K) | (apply WQ.want; (case hw => rfl); intro K hK; go_simp; first | (apply hK; clear hK K) | (apply Exists.intro; apply And.intro; (case left => intro p; (first | (go_at_call 69; exact cP _ _) | (go_at_call 21; exact cQ _ _))); apply hK; clear hK K)))
          refine WQ.nil ?_
          intro w2 hw2
          have HB2 : Hid (Below w.heap.size w w2) := (HT1.out.call (below_rg hw2)).bel
          clear hw2
          go_wp2
          go_ret
          first
            | exact boolNo rfl (fun h => by have := HE.out.1 h; simp at this) HB2.out
            | exact boolYes rfl (HE.out.2 (by simp)) HB2.out
    · have hc0 : (c != 0) = true := by
        have : c ≠ 0 := by omega
        simp [this]
      have HNO : Hid (¬ ItemP s r) := fun h => by
        have := HL.out
        unfold ItemP at h
        omega
      clear hc hok
      go_wp2
      go_ret
      exact boolNo rfl HNO.out HT1.out.bel
end Go.Proofs.Ytgpglgchbimmaaa

namespace Go.Proofs.Ytgpglgchbimmaaa
open Go.RowKit F256
set_option linter.unusedVariables false
set_option linter.unusedSimpArgs false

/-- RecFault has told what is to be told -/
def RecPost (s : Nat → Int) (r : RecD) (w : World) (e : Ending) (w' : World) : Prop := ∃ x, e = .returned (.int .i64 x) ∧ RecAns s r x ∧ Below w.heap.size w w'
theorem recP {s : Nat → Int} {r : RecD} {w : World} {e : Ending} {w' : World} {x : Int} (he : e = .returned (.int .i64 x)) (h : RecAns s r x) (hb : Below w.heap.size w w') : RecPost s r w e w' := ⟨x, he, h, hb⟩
theorem exBT {P : Prop} (h : P) : true = true ↔ P := ⟨fun _ => h, fun _ => rfl⟩
theorem exBF {P : Prop} (h : ¬ P) : false = true ↔ P := ⟨fun h => (by cases h), fun hh => absurd hh h⟩

set_option maxHeartbeats 16000000 in
set_option maxRecDepth 20000 in
theorem specRec_any (s : Nat → Int) (r : RecD) (cs : List Value) (hi : Nat) (w : World) (h : layRec.rd w hi r cs) (hhi : hi ≤ w.heap.size) (hnm : r.name.size ≤ 1048576) :
    Calls Try.prog 11 #[shapeV s, .agg cs.toArray] w (RecPost s r w) := by
  obtain ⟨kind, seq, name, length, group, row, rows, data, delta⟩ := r
  obtain ⟨ao6, cap6, ao7, cap7, ao8, cap8, rfl, g6, g7, g8, k0, k1, k2, k3, k4, k5⟩ := Rec_rd h
  have HRD : Hid (layRec.rd w hi ⟨kind, seq, name, length, group, row, rows, data, delta⟩ [.int .i64 kind, .int .i64 seq, .string name, .int .i64 length, .int .i64 group, .int .i64 row, .slice ao6 rows.1 cap6, .slice ao7 data.1 cap7, .slice ao8 delta.1 cap8]) := h
  obtain ⟨v6, e6, ⟨h6, hcp6⟩, _⟩ := g6
  cases e6
  have H6 : Hid (RdI w hi (.slice ao6 rows.1 cap6) rows.1 rows.2) := h6
  have hm6 : rows.1 ≤ maxLen := h6.mx
  obtain ⟨v7, e7, ⟨_, _, e7', hm7, _⟩, _⟩ := g7
  cases e7
  cases e7'
  obtain ⟨v8, e8, ⟨_, _, e8', hm8, _⟩, _⟩ := g8
  cases e8
  cases e8'
  unfold maxLen at hm6 hm7 hm8
  simp only at k0 k1 k2 k3 k4 k5 hm6 hm7 hm8 hnm
  clear h h6 hcp6
  have T0 := two_newb w #[.int .i64 (s 0), .int .i64 (s 1), .int .i64 (s 2), .int .i64 (s 3), .int .i64 (s 4), .int .i64 (s 5), .int .i64 (s 6), .int .i64 (s 7), .int .i64 (s 8)] #[.int .i64 kind, .int .i64 seq, .string name, .int .i64 length, .int .i64 group, .int .i64 row, .slice ao6 rows.1 cap6, .slice ao7 data.1 cap7, .slice ao8 delta.1 cap8] 31 45
  have CSh := fun w' => specShape_any s w'
  unfold shapeV at CSh ⊢
  go_enter Try.func11, Try.ntmps11
  go_wp2_with fail
  refine (CSh _).mono ?_
  rintro e w1 ⟨x, rfl, hx, b1⟩
  have T1 : Two w w1 #[.int .i64 (s 0), .int .i64 (s 1), .int .i64 (s 2), .int .i64 (s 3), .int .i64 (s 4), .int .i64 (s 5), .int .i64 (s 6), .int .i64 (s 7), .int .i64 (s 8)] #[.int .i64 kind, .int .i64 seq, .string name, .int .i64 length, .int .i64 group, .int .i64 row, .slice ao6 rows.1 cap6, .slice ao7 data.1 cap7, .slice ao8 delta.1 cap8] 31 45 := T0.call b1
  have HT1 : Hid (Two w w1 #[.int .i64 (s 0), .int .i64 (s 1), .int .i64 (s 2), .int .i64 (s 3), .int .i64 (s 4), .int .i64 (s 5), .int .i64 (s 6), .int .i64 (s 7), .int .i64 (s 8)] #[.int .i64 kind, .int .i64 seq, .string name, .int .i64 length, .int .i64 group, .int .i64 row, .slice ao6 rows.1 cap6, .slice ao7 data.1 cap7, .slice ao8 delta.1 cap8] 31 45) := T1
  have z1 : w.heap.size + 1 < w1.heap.size := T1.b2.lt
  clear b1 T0 CSh
  have x1_0 : w1.cell? ⟨w.heap.size, 0, none⟩ = some (.int .i64 (s 0)) := T1.b1.cell 0
  have x1_1 : w1.cell? ⟨w.heap.size, 1, none⟩ = some (.int .i64 (s 1)) := T1.b1.cell 1
  have x1_2 : w1.cell? ⟨w.heap.size, 2, none⟩ = some (.int .i64 (s 2)) := T1.b1.cell 2
  have x1_3 : w1.cell? ⟨w.heap.size, 3, none⟩ = some (.int .i64 (s 3)) := T1.b1.cell 3
  have x1_4 : w1.cell? ⟨w.heap.size, 4, none⟩ = some (.int .i64 (s 4)) := T1.b1.cell 4
  have x1_5 : w1.cell? ⟨w.heap.size, 5, none⟩ = some (.int .i64 (s 5)) := T1.b1.cell 5
  have x1_6 : w1.cell? ⟨w.heap.size, 6, none⟩ = some (.int .i64 (s 6)) := T1.b1.cell 6
  have x1_7 : w1.cell? ⟨w.heap.size, 7, none⟩ = some (.int .i64 (s 7)) := T1.b1.cell 7
  have x1_8 : w1.cell? ⟨w.heap.size, 8, none⟩ = some (.int .i64 (s 8)) := T1.b1.cell 8
  have y1_0 : w1.cell? ⟨w.heap.size + 1, 0, none⟩ = some (.int .i64 kind) := T1.b2.cell 0
  have y1_1 : w1.cell? ⟨w.heap.size + 1, 1, none⟩ = some (.int .i64 seq) := T1.b2.cell 1
  have y1_2 : w1.cell? ⟨w.heap.size + 1, 2, none⟩ = some (.string name) := T1.b2.cell 2
  have y1_3 : w1.cell? ⟨w.heap.size + 1, 3, none⟩ = some (.int .i64 length) := T1.b2.cell 3
  have y1_4 : w1.cell? ⟨w.heap.size + 1, 4, none⟩ = some (.int .i64 group) := T1.b2.cell 4
  have y1_5 : w1.cell? ⟨w.heap.size + 1, 5, none⟩ = some (.int .i64 row) := T1.b2.cell 5
  have y1_6 : w1.cell? ⟨w.heap.size + 1, 6, none⟩ = some (.slice ao6 rows.1 cap6) := T1.b2.cell 6
  have y1_7 : w1.cell? ⟨w.heap.size + 1, 7, none⟩ = some (.slice ao7 data.1 cap7) := T1.b2.cell 7
  have y1_8 : w1.cell? ⟨w.heap.size + 1, 8, none⟩ = some (.slice ao8 delta.1 cap8) := T1.b2.cell 8
  clear T1
  rcases hx with ⟨rfl, hno⟩ | ⟨rfl, hok⟩
  · go_wp2
    go_ret
    exact recP rfl (Stair.fall hno) HT1.out.bel
  have HOK : Hid (OkShape s) := hok
  have hsb : 1 ≤ s 0 ∧ s 0 ≤ 4 ∧ 0 ≤ s 1 ∧ s 1 ≤ 2 ∧ 1 ≤ s 2 ∧ s 2 ≤ 3 ∧ 1 ≤ s 4 ∧ s 4 ≤ 6 := by
    obtain ⟨h1, h2, h3, _⟩ := hok
    unfold Shp3 at h1
    unfold Shp at h2
    omega
  clear hok
  by_cases hk : InP kind 1 4
  · go_wp2_with fail
    refine (l1In_b (t := true) (exBT hk) _).mono ?_
    rintro e w' ⟨rfl, hw'⟩
    obtain rfl := hw'.symm
    by_cases hq : InP seq 1 1000000000
    · go_wp2_with fail
      refine (l1In_b (t := true) (exBT hq) _).mono ?_
      rintro e w' ⟨rfl, hw'⟩
      obtain rfl := hw'.symm
      have HK : Hid (InP kind 1 4) := hk
      have HQ : Hid (InP seq 1 1000000000) := hq
      go_upto_region 9 with fail
      have bA : Below w1.heap.size w1 (w1.alloc (.cells #[.int .i64 kind, .int .i64 seq, .string name, .int .i64 length, .int .i64 group, .int .i64 row, .slice ao6 rows.1 cap6, .slice ao7 data.1 cap7, .slice ao8 delta.1 cap8] 45)) := (Below.refl _ _).alloc (Nat.le_refl _) _
      have T2 : Two w (w1.alloc (.cells #[.int .i64 kind, .int .i64 seq, .string name, .int .i64 length, .int .i64 group, .int .i64 row, .slice ao6 rows.1 cap6, .slice ao7 data.1 cap7, .slice ao8 delta.1 cap8] 45)) #[.int .i64 (s 0), .int .i64 (s 1), .int .i64 (s 2), .int .i64 (s 3), .int .i64 (s 4), .int .i64 (s 5), .int .i64 (s 6), .int .i64 (s 7), .int .i64 (s 8)] #[.int .i64 kind, .int .i64 seq, .string name, .int .i64 length, .int .i64 group, .int .i64 row, .slice ao6 rows.1 cap6, .slice ao7 data.1 cap7, .slice ao8 delta.1 cap8] 31 45 := HT1.out.call bA
      have X2 : Box (w1.alloc (.cells #[.int .i64 kind, .int .i64 seq, .string name, .int .i64 length, .int .i64 group, .int .i64 row, .slice ao6 rows.1 cap6, .slice ao7 data.1 cap7, .slice ao8 delta.1 cap8] 45)) w1.heap.size #[.int .i64 kind, .int .i64 seq, .string name, .int .i64 length, .int .i64 group, .int .i64 row, .slice ao6 rows.1 cap6, .slice ao7 data.1 cap7, .slice ao8 delta.1 cap8] 45 := box_new _ _ _
      obtain ⟨W2, hW2⟩ : ∃ W2, W2 = w1.alloc (.cells #[.int .i64 kind, .int .i64 seq, .string name, .int .i64 length, .int .i64 group, .int .i64 row, .slice ao6 rows.1 cap6, .slice ao7 data.1 cap7, .slice ao8 delta.1 cap8] 45) := ⟨_, rfl⟩
      rw [← hW2] at T2 X2 ⊢
      have HT2 : Hid (Two w W2 #[.int .i64 (s 0), .int .i64 (s 1), .int .i64 (s 2), .int .i64 (s 3), .int .i64 (s 4), .int .i64 (s 5), .int .i64 (s 6), .int .i64 (s 7), .int .i64 (s 8)] #[.int .i64 kind, .int .i64 seq, .string name, .int .i64 length, .int .i64 group, .int .i64 row, .slice ao6 rows.1 cap6, .slice ao7 data.1 cap7, .slice ao8 delta.1 cap8] 31 45) := T2
      have HX2 : Hid (Box W2 w1.heap.size #[.int .i64 kind, .int .i64 seq, .string name, .int .i64 length, .int .i64 group, .int .i64 row, .slice ao6 rows.1 cap6, .slice ao7 data.1 cap7, .slice ao8 delta.1 cap8] 45) := X2
      clear bA hW2 x1_0 y1_0 x1_1 y1_1 x1_2 y1_2 x1_3 y1_3 x1_4 y1_4 x1_5 y1_5 x1_6 y1_6 x1_7 y1_7 x1_8 y1_8
      have x2_0 : W2.cell? ⟨w.heap.size, 0, none⟩ = some (.int .i64 (s 0)) := T2.b1.cell 0
      have kx2_0 := cell_regrown x2_0
      have x2_1 : W2.cell? ⟨w.heap.size, 1, none⟩ = some (.int .i64 (s 1)) := T2.b1.cell 1
      have kx2_1 := cell_regrown x2_1
      have x2_2 : W2.cell? ⟨w.heap.size, 2, none⟩ = some (.int .i64 (s 2)) := T2.b1.cell 2
      have kx2_2 := cell_regrown x2_2
      have x2_3 : W2.cell? ⟨w.heap.size, 3, none⟩ = some (.int .i64 (s 3)) := T2.b1.cell 3
      have kx2_3 := cell_regrown x2_3
      have x2_4 : W2.cell? ⟨w.heap.size, 4, none⟩ = some (.int .i64 (s 4)) := T2.b1.cell 4
      have kx2_4 := cell_regrown x2_4
      have x2_5 : W2.cell? ⟨w.heap.size, 5, none⟩ = some (.int .i64 (s 5)) := T2.b1.cell 5
      have kx2_5 := cell_regrown x2_5
      have x2_6 : W2.cell? ⟨w.heap.size, 6, none⟩ = some (.int .i64 (s 6)) := T2.b1.cell 6
      have kx2_6 := cell_regrown x2_6
      have x2_7 : W2.cell? ⟨w.heap.size, 7, none⟩ = some (.int .i64 (s 7)) := T2.b1.cell 7
      have kx2_7 := cell_regrown x2_7
      have x2_8 : W2.cell? ⟨w.heap.size, 8, none⟩ = some (.int .i64 (s 8)) := T2.b1.cell 8
      have kx2_8 := cell_regrown x2_8
      have y2_0 : W2.cell? ⟨w.heap.size + 1, 0, none⟩ = some (.int .i64 kind) := T2.b2.cell 0
      have ky2_0 := cell_regrown y2_0
      have y2_1 : W2.cell? ⟨w.heap.size + 1, 1, none⟩ = some (.int .i64 seq) := T2.b2.cell 1
      have ky2_1 := cell_regrown y2_1
      have y2_2 : W2.cell? ⟨w.heap.size + 1, 2, none⟩ = some (.string name) := T2.b2.cell 2
      have ky2_2 := cell_regrown y2_2
      have y2_3 : W2.cell? ⟨w.heap.size + 1, 3, none⟩ = some (.int .i64 length) := T2.b2.cell 3
      have ky2_3 := cell_regrown y2_3
      have y2_4 : W2.cell? ⟨w.heap.size + 1, 4, none⟩ = some (.int .i64 group) := T2.b2.cell 4
      have ky2_4 := cell_regrown y2_4
      have y2_5 : W2.cell? ⟨w.heap.size + 1, 5, none⟩ = some (.int .i64 row) := T2.b2.cell 5
      have ky2_5 := cell_regrown y2_5
      have y2_6 : W2.cell? ⟨w.heap.size + 1, 6, none⟩ = some (.slice ao6 rows.1 cap6) := T2.b2.cell 6
      have ky2_6 := cell_regrown y2_6
      have y2_7 : W2.cell? ⟨w.heap.size + 1, 7, none⟩ = some (.slice ao7 data.1 cap7) := T2.b2.cell 7
      have ky2_7 := cell_regrown y2_7
      have y2_8 : W2.cell? ⟨w.heap.size + 1, 8, none⟩ = some (.slice ao8 delta.1 cap8) := T2.b2.cell 8
      have ky2_8 := cell_regrown y2_8
      have z2_0 : W2.cell? ⟨w1.heap.size, 0, none⟩ = some (.int .i64 kind) := X2.cell 0
      have f2_0 : W2.frozen? ⟨w1.heap.size, 0, none⟩ = false := X2.frozen 0
      have z2_1 : W2.cell? ⟨w1.heap.size, 1, none⟩ = some (.int .i64 seq) := X2.cell 1
      have f2_1 : W2.frozen? ⟨w1.heap.size, 1, none⟩ = false := X2.frozen 1
      have z2_2 : W2.cell? ⟨w1.heap.size, 2, none⟩ = some (.string name) := X2.cell 2
      have f2_2 : W2.frozen? ⟨w1.heap.size, 2, none⟩ = false := X2.frozen 2
      have z2_3 : W2.cell? ⟨w1.heap.size, 3, none⟩ = some (.int .i64 length) := X2.cell 3
      have f2_3 : W2.frozen? ⟨w1.heap.size, 3, none⟩ = false := X2.frozen 3
      have z2_4 : W2.cell? ⟨w1.heap.size, 4, none⟩ = some (.int .i64 group) := X2.cell 4
      have f2_4 : W2.frozen? ⟨w1.heap.size, 4, none⟩ = false := X2.frozen 4
      have z2_5 : W2.cell? ⟨w1.heap.size, 5, none⟩ = some (.int .i64 row) := X2.cell 5
      have f2_5 : W2.frozen? ⟨w1.heap.size, 5, none⟩ = false := X2.frozen 5
      have z2_6 : W2.cell? ⟨w1.heap.size, 6, none⟩ = some (.slice ao6 rows.1 cap6) := X2.cell 6
      have f2_6 : W2.frozen? ⟨w1.heap.size, 6, none⟩ = false := X2.frozen 6
      have z2_7 : W2.cell? ⟨w1.heap.size, 7, none⟩ = some (.slice ao7 data.1 cap7) := X2.cell 7
      have f2_7 : W2.frozen? ⟨w1.heap.size, 7, none⟩ = false := X2.frozen 7
      have z2_8 : W2.cell? ⟨w1.heap.size, 8, none⟩ = some (.slice ao8 delta.1 cap8) := X2.cell 8
      have f2_8 : W2.frozen? ⟨w1.heap.size, 8, none⟩ = false := X2.frozen 8
      clear T2 X2
      have hk4 : kind = 1 ∨ kind = 2 ∨ kind = 3 ∨ kind = 4 := by unfold InP at hk; omega
      have ws0 : IntKind.i64.wrap (s 0 - 1) = s 0 - 1 := by rw [IntKind.wrap_i64]; omega
      have ws4 : IntKind.i64.wrap (s 4 - 1) = s 4 - 1 := by rw [IntKind.wrap_i64]; omega
      have wsA : IntKind.i64.wrap (s 0 + s 1 - 1) = s 0 + s 1 - 1 := by rw [IntKind.wrap_i64]; omega
      clear hk hq
      rcases hk4 with rfl | rfl | rfl | rfl
      · go_wp2_with fail
        refine (specName_any name hnm _).mono ?_
        rintro e w' ⟨x, rfl, hx, hw'⟩
        obtain rfl := hw'.symm
        rcases hx with ⟨rfl, hno⟩ | ⟨rfl, hyes⟩
        · go_wp2
          go_ret
          exact recP rfl (Stair.pass HOK.out (Stair.pass HK.out (Stair.pass HQ.out (Stair.fall (fun h => hno (h rfl)))))) HT2.out.bel
        · have HN : Hid (NamedP ⟨1, seq, name, length, group, row, rows, data, delta⟩) := fun _ => hyes
          clear hyes
          obtain ⟨t3, h3⟩ := exB (ItemP s ⟨1, seq, name, length, group, row, rows, data, delta⟩)
          have CI := det_b (l5Item_any s HOK.out ⟨1, seq, name, length, group, row, rows, data, delta⟩ _ hi W2 (layRec.rd_below HRD.out HT2.out.bel hhi) (Nat.le_trans hhi HT2.out.bel.size)) h3
          unfold shapeV at CI
          go_wp2_with fail
          refine CI.mono ?_
          rintro e w3 ⟨rfl, b3⟩
          have X3 : Box w3 w1.heap.size #[.int .i64 1, .int .i64 seq, .string name, .int .i64 length, .int .i64 group, .int .i64 row, .slice ao6 rows.1 cap6, .slice ao7 data.1 cap7, .slice ao8 delta.1 cap8] 45 := HX2.out.call b3
          have HB3 : Hid (Below w.heap.size w w3) := (HT2.out.call b3).bel
          have z3_0 : w3.cell? ⟨w1.heap.size, 0, none⟩ = some (.int .i64 1) := X3.cell 0
          have f3_0 : w3.frozen? ⟨w1.heap.size, 0, none⟩ = false := X3.frozen 0
          have z3_1 : w3.cell? ⟨w1.heap.size, 1, none⟩ = some (.int .i64 seq) := X3.cell 1
          have f3_1 : w3.frozen? ⟨w1.heap.size, 1, none⟩ = false := X3.frozen 1
          have z3_2 : w3.cell? ⟨w1.heap.size, 2, none⟩ = some (.string name) := X3.cell 2
          have f3_2 : w3.frozen? ⟨w1.heap.size, 2, none⟩ = false := X3.frozen 2
          have z3_3 : w3.cell? ⟨w1.heap.size, 3, none⟩ = some (.int .i64 length) := X3.cell 3
          have f3_3 : w3.frozen? ⟨w1.heap.size, 3, none⟩ = false := X3.frozen 3
          have z3_4 : w3.cell? ⟨w1.heap.size, 4, none⟩ = some (.int .i64 group) := X3.cell 4
          have f3_4 : w3.frozen? ⟨w1.heap.size, 4, none⟩ = false := X3.frozen 4
          have z3_5 : w3.cell? ⟨w1.heap.size, 5, none⟩ = some (.int .i64 row) := X3.cell 5
          have f3_5 : w3.frozen? ⟨w1.heap.size, 5, none⟩ = false := X3.frozen 5
          have z3_6 : w3.cell? ⟨w1.heap.size, 6, none⟩ = some (.slice ao6 rows.1 cap6) := X3.cell 6
          have f3_6 : w3.frozen? ⟨w1.heap.size, 6, none⟩ = false := X3.frozen 6
          have z3_7 : w3.cell? ⟨w1.heap.size, 7, none⟩ = some (.slice ao7 data.1 cap7) := X3.cell 7
          have f3_7 : w3.frozen? ⟨w1.heap.size, 7, none⟩ = false := X3.frozen 7
          have z3_8 : w3.cell? ⟨w1.heap.size, 8, none⟩ = some (.slice ao8 delta.1 cap8) := X3.cell 8
          have f3_8 : w3.frozen? ⟨w1.heap.size, 8, none⟩ = false := X3.frozen 8
          clear X3 b3
          clear x2_0 kx2_0 y2_0 ky2_0 z2_0 f2_0 x2_1 kx2_1 y2_1 ky2_1 z2_1 f2_1 x2_2 kx2_2 y2_2 ky2_2 z2_2 f2_2 x2_3 kx2_3 y2_3 ky2_3 z2_3 f2_3 x2_4 kx2_4 y2_4 ky2_4 z2_4 f2_4 x2_5 kx2_5 y2_5 ky2_5 z2_5 f2_5 x2_6 kx2_6 y2_6 ky2_6 z2_6 f2_6 x2_7 kx2_7 y2_7 ky2_7 z2_7 f2_7 x2_8 kx2_8 y2_8 ky2_8 z2_8 f2_8 CI
          have H3 : Hid (t3 = true ↔ ItemP s ⟨1, seq, name, length, group, row, rows, data, delta⟩) := h3
          clear h3
          cases t3 with
          | false =>
            go_wp2
            go_ret
            exact recP rfl (Stair.pass HOK.out (Stair.pass HK.out (Stair.pass HQ.out (Stair.pass HN.out (Stair.fall (fun h => by
              have : ItemP s ⟨1, seq, name, length, group, row, rows, data, delta⟩ := by
                unfold KindP at h
                simpa using h
              have := H3.out.2 this
              simp at this)))))) HB3.out
          | true =>
            have HKP : Hid (KindP s ⟨1, seq, name, length, group, row, rows, data, delta⟩) := .inl ⟨rfl, H3.out.1 (by simp)⟩
            go_wp2_with fail
            refine (l5Empty_any _ _ _ _ _ _ _ _ _ _ _ _ _ _ _ _).mono ?_
            rintro e w9 ⟨t9, rfl, ht9, b9⟩
            have HB9 : Hid (Below w.heap.size w w9) := by
              show Below w.heap.size w w9
              refine Below.trans ?_ (b9.mono ?_)
              · repeat (refine below_set ?_ (by omega))
                exact HB3.out
              · simp
                exact HB3.out.size
            clear b9
            have HT9 : Hid (t9 = true ↔ BlankP ⟨1, seq, name, length, group, row, rows, data, delta⟩) := by
              show t9 = true ↔ BlankP ⟨1, seq, name, length, group, row, rows, data, delta⟩
              rw [ht9]
              unfold EmptyQ BlankP noName
              simp [and_assoc]
              try (intros; rfl)
            clear ht9
            cases t9 with
            | false =>
              go_wp2
              go_ret
              exact recP rfl (Stair.pass HOK.out (Stair.pass HK.out (Stair.pass HQ.out (Stair.pass HN.out (Stair.pass HKP.out (Stair.fall (fun h => by have := HT9.out.2 h; simp at this))))))) HB9.out
            | true =>
              go_wp2
              go_ret
              exact recP rfl (Stair.pass HOK.out (Stair.pass HK.out (Stair.pass HQ.out (Stair.pass HN.out (Stair.pass HKP.out (Stair.pass (HT9.out.1 (by simp)) (Stair.last rfl))))))) HB9.out
      · have HN : Hid (NamedP ⟨2, seq, name, length, group, row, rows, data, delta⟩) := fun h => by simp at h
        obtain ⟨t1, h1⟩ := exB (InP group 0 (s 0 - 1))
        obtain ⟨t2, h2⟩ := exB (InP row 0 (s 4 - 1))
        obtain ⟨b3', h3⟩ : ∃ b, ((data.1 : Int) != s 2 * 4) = b := ⟨_, rfl⟩
        obtain ⟨b4', h4⟩ : ∃ b, ((delta.1 : Int) != s 2 * 4) = b := ⟨_, rfl⟩
        have cG := q_same (W := W2) (fun w' => l1In_b h1 w')
        have cR := q_same (W := W2) (fun w' => l1In_b h2 w')
        have cW := q_below (W := W2) (fun w' _ => l4Wide_any s (by omega) (by omega) w')
        unfold shapeV at cW
        have HE : Hid (KindP s ⟨2, seq, name, length, group, row, rows, data, delta⟩ ↔ (t1 = true ∧ t2 = true ∧ b3' = false ∧ b4' = false)) := by
          show KindP s ⟨2, seq, name, length, group, row, rows, data, delta⟩ ↔ _
          rw [h1, h2, ← h3, ← h4]
          unfold KindP MoveP
          simp
        have hst : (t1 = false) ∨ (t1 = true ∧ t2 = false) ∨ (t1 = true ∧ t2 = true ∧ b3' = true) ∨ (t1 = true ∧ t2 = true ∧ b3' = false ∧ b4' = true) ∨ (t1 = true ∧ t2 = true ∧ b3' = false ∧ b4' = false) := by
          clear HE h1 h2 h3 h4 cG cR
          cases t1 <;> simp
          cases t2 <;> simp
          cases b3' <;> simp
        clear h1 h2
        go_wp2
        rcases hst with rfl | ⟨rfl, rfl⟩ | ⟨rfl, rfl, rfl⟩ | ⟨rfl, rfl, rfl, rfl⟩ | ⟨rfl, rfl, rfl, rfl⟩
        all_goals
          refine WQ.region (by kernel_rfl) (by kernel_rfl) ?_
          repeat (first | (apply WQ.skip; (case hw => rfl); intro K hK; go_simp; apply hK; clear hK K) | (apply WQ.want; (case hw => rfl); intro K hK; go_simp; first | (apply hK; clear hK K) | (apply Exists.intro; apply And.intro; (case left => intro p; (first | (go_at_call_of 23 (Value.int .i64 group); exact cG _ _) | (go_at_call_of 23 (Value.int .i64 row); exact cR _ _) | (go_at_call 42; exact cW _ _))); apply hK; clear hK K)))
          refine WQ.nil ?_
          intro w3 hw3
          have b3 := below_rg hw3
          have X3 : Box w3 w1.heap.size #[.int .i64 2, .int .i64 seq, .string name, .int .i64 length, .int .i64 group, .int .i64 row, .slice ao6 rows.1 cap6, .slice ao7 data.1 cap7, .slice ao8 delta.1 cap8] 45 := HX2.out.call b3
          have HB3 : Hid (Below w.heap.size w w3) := (HT2.out.call b3).bel
          have z3_0 : w3.cell? ⟨w1.heap.size, 0, none⟩ = some (.int .i64 2) := X3.cell 0
          have f3_0 : w3.frozen? ⟨w1.heap.size, 0, none⟩ = false := X3.frozen 0
          have z3_1 : w3.cell? ⟨w1.heap.size, 1, none⟩ = some (.int .i64 seq) := X3.cell 1
          have f3_1 : w3.frozen? ⟨w1.heap.size, 1, none⟩ = false := X3.frozen 1
          have z3_2 : w3.cell? ⟨w1.heap.size, 2, none⟩ = some (.string name) := X3.cell 2
          have f3_2 : w3.frozen? ⟨w1.heap.size, 2, none⟩ = false := X3.frozen 2
          have z3_3 : w3.cell? ⟨w1.heap.size, 3, none⟩ = some (.int .i64 length) := X3.cell 3
          have f3_3 : w3.frozen? ⟨w1.heap.size, 3, none⟩ = false := X3.frozen 3
          have z3_4 : w3.cell? ⟨w1.heap.size, 4, none⟩ = some (.int .i64 group) := X3.cell 4
          have f3_4 : w3.frozen? ⟨w1.heap.size, 4, none⟩ = false := X3.frozen 4
          have z3_5 : w3.cell? ⟨w1.heap.size, 5, none⟩ = some (.int .i64 row) := X3.cell 5
          have f3_5 : w3.frozen? ⟨w1.heap.size, 5, none⟩ = false := X3.frozen 5
          have z3_6 : w3.cell? ⟨w1.heap.size, 6, none⟩ = some (.slice ao6 rows.1 cap6) := X3.cell 6
          have f3_6 : w3.frozen? ⟨w1.heap.size, 6, none⟩ = false := X3.frozen 6
          have z3_7 : w3.cell? ⟨w1.heap.size, 7, none⟩ = some (.slice ao7 data.1 cap7) := X3.cell 7
          have f3_7 : w3.frozen? ⟨w1.heap.size, 7, none⟩ = false := X3.frozen 7
          have z3_8 : w3.cell? ⟨w1.heap.size, 8, none⟩ = some (.slice ao8 delta.1 cap8) := X3.cell 8
          have f3_8 : w3.frozen? ⟨w1.heap.size, 8, none⟩ = false := X3.frozen 8
          clear X3 b3
          clear hw3 x2_0 kx2_0 y2_0 ky2_0 z2_0 f2_0 x2_1 kx2_1 y2_1 ky2_1 z2_1 f2_1 x2_2 kx2_2 y2_2 ky2_2 z2_2 f2_2 x2_3 kx2_3 y2_3 ky2_3 z2_3 f2_3 x2_4 kx2_4 y2_4 ky2_4 z2_4 f2_4 x2_5 kx2_5 y2_5 ky2_5 z2_5 f2_5 x2_6 kx2_6 y2_6 ky2_6 z2_6 f2_6 x2_7 kx2_7 y2_7 ky2_7 z2_7 f2_7 x2_8 kx2_8 y2_8 ky2_8 z2_8 f2_8
        · go_wp2
          go_ret
          exact recP rfl (Stair.pass HOK.out (Stair.pass HK.out (Stair.pass HQ.out (Stair.pass HN.out (Stair.fall (fun h => by have := HE.out.1 h; simp at this)))))) HB3.out
        · go_wp2
          go_ret
          exact recP rfl (Stair.pass HOK.out (Stair.pass HK.out (Stair.pass HQ.out (Stair.pass HN.out (Stair.fall (fun h => by have := HE.out.1 h; simp at this)))))) HB3.out
        · go_wp2
          go_ret
          exact recP rfl (Stair.pass HOK.out (Stair.pass HK.out (Stair.pass HQ.out (Stair.pass HN.out (Stair.fall (fun h => by have := HE.out.1 h; simp at this)))))) HB3.out
        · go_wp2
          go_ret
          exact recP rfl (Stair.pass HOK.out (Stair.pass HK.out (Stair.pass HQ.out (Stair.pass HN.out (Stair.fall (fun h => by have := HE.out.1 h; simp at this)))))) HB3.out
        · have HKP : Hid (KindP s ⟨2, seq, name, length, group, row, rows, data, delta⟩) := HE.out.2 (by simp)
          go_wp2_with fail
          refine (l5Empty_any _ _ _ _ _ _ _ _ _ _ _ _ _ _ _ _).mono ?_
          rintro e w9 ⟨t9, rfl, ht9, b9⟩
          have HB9 : Hid (Below w.heap.size w w9) := by
            show Below w.heap.size w w9
            refine Below.trans ?_ (b9.mono ?_)
            · repeat (refine below_set ?_ (by omega))
              exact HB3.out
            · simp
              exact HB3.out.size
          clear b9
          have HT9 : Hid (t9 = true ↔ BlankP ⟨2, seq, name, length, group, row, rows, data, delta⟩) := by
            show t9 = true ↔ BlankP ⟨2, seq, name, length, group, row, rows, data, delta⟩
            rw [ht9]
            unfold EmptyQ BlankP noName
            simp [and_assoc]
            try (intros; rfl)
          clear ht9
          cases t9 with
          | false =>
            go_wp2
            go_ret
            exact recP rfl (Stair.pass HOK.out (Stair.pass HK.out (Stair.pass HQ.out (Stair.pass HN.out (Stair.pass HKP.out (Stair.fall (fun h => by have := HT9.out.2 h; simp at this))))))) HB9.out
          | true =>
            go_wp2
            go_ret
            exact recP rfl (Stair.pass HOK.out (Stair.pass HK.out (Stair.pass HQ.out (Stair.pass HN.out (Stair.pass HKP.out (Stair.pass (HT9.out.1 (by simp)) (Stair.last rfl))))))) HB9.out
      · have HN : Hid (NamedP ⟨3, seq, name, length, group, row, rows, data, delta⟩) := fun h => by simp at h
        obtain ⟨t1, h1⟩ := exB (InP group 0 (s 0 + s 1 - 1))
        have cG := q_same (W := W2) (fun w' => l1In_b h1 w')
        have cA := q_below (W := W2) (fun w' _ => l5All_any s HOK.out w')
        unfold shapeV at cA
        have HE : Hid (KindP s ⟨3, seq, name, length, group, row, rows, data, delta⟩ ↔ (t1 = true)) := by
          show KindP s ⟨3, seq, name, length, group, row, rows, data, delta⟩ ↔ _
          rw [h1]
          unfold KindP DoneP
          simp
        have hst : (t1 = false) ∨ (t1 = true) := by
          clear HE h1 cG
          cases t1 <;> simp
        clear h1
        go_wp2
        rcases hst with rfl | rfl
        all_goals
          refine WQ.region (by kernel_rfl) (by kernel_rfl) ?_
          repeat (first | (apply WQ.skip; (case hw => rfl); intro K hK; go_simp; apply hK; clear hK K) | (apply WQ.want; (case hw => rfl); intro K hK; go_simp; first | (apply hK; clear hK K) | (apply Exists.intro; apply And.intro; (case left => intro p; (first | (go_at_call 23; exact cG _ _) | (go_at_call 22; exact cA _ _))); apply hK; clear hK K)))
          refine WQ.nil ?_
          intro w3 hw3
          have b3 := below_rg hw3
          have X3 : Box w3 w1.heap.size #[.int .i64 3, .int .i64 seq, .string name, .int .i64 length, .int .i64 group, .int .i64 row, .slice ao6 rows.1 cap6, .slice ao7 data.1 cap7, .slice ao8 delta.1 cap8] 45 := HX2.out.call b3
          have HB3 : Hid (Below w.heap.size w w3) := (HT2.out.call b3).bel
          have z3_0 : w3.cell? ⟨w1.heap.size, 0, none⟩ = some (.int .i64 3) := X3.cell 0
          have f3_0 : w3.frozen? ⟨w1.heap.size, 0, none⟩ = false := X3.frozen 0
          have z3_1 : w3.cell? ⟨w1.heap.size, 1, none⟩ = some (.int .i64 seq) := X3.cell 1
          have f3_1 : w3.frozen? ⟨w1.heap.size, 1, none⟩ = false := X3.frozen 1
          have z3_2 : w3.cell? ⟨w1.heap.size, 2, none⟩ = some (.string name) := X3.cell 2
          have f3_2 : w3.frozen? ⟨w1.heap.size, 2, none⟩ = false := X3.frozen 2
          have z3_3 : w3.cell? ⟨w1.heap.size, 3, none⟩ = some (.int .i64 length) := X3.cell 3
          have f3_3 : w3.frozen? ⟨w1.heap.size, 3, none⟩ = false := X3.frozen 3
          have z3_4 : w3.cell? ⟨w1.heap.size, 4, none⟩ = some (.int .i64 group) := X3.cell 4
          have f3_4 : w3.frozen? ⟨w1.heap.size, 4, none⟩ = false := X3.frozen 4
          have z3_5 : w3.cell? ⟨w1.heap.size, 5, none⟩ = some (.int .i64 row) := X3.cell 5
          have f3_5 : w3.frozen? ⟨w1.heap.size, 5, none⟩ = false := X3.frozen 5
          have z3_6 : w3.cell? ⟨w1.heap.size, 6, none⟩ = some (.slice ao6 rows.1 cap6) := X3.cell 6
          have f3_6 : w3.frozen? ⟨w1.heap.size, 6, none⟩ = false := X3.frozen 6
          have z3_7 : w3.cell? ⟨w1.heap.size, 7, none⟩ = some (.slice ao7 data.1 cap7) := X3.cell 7
          have f3_7 : w3.frozen? ⟨w1.heap.size, 7, none⟩ = false := X3.frozen 7
          have z3_8 : w3.cell? ⟨w1.heap.size, 8, none⟩ = some (.slice ao8 delta.1 cap8) := X3.cell 8
          have f3_8 : w3.frozen? ⟨w1.heap.size, 8, none⟩ = false := X3.frozen 8
          clear X3 b3
          clear hw3 x2_0 kx2_0 y2_0 ky2_0 z2_0 f2_0 x2_1 kx2_1 y2_1 ky2_1 z2_1 f2_1 x2_2 kx2_2 y2_2 ky2_2 z2_2 f2_2 x2_3 kx2_3 y2_3 ky2_3 z2_3 f2_3 x2_4 kx2_4 y2_4 ky2_4 z2_4 f2_4 x2_5 kx2_5 y2_5 ky2_5 z2_5 f2_5 x2_6 kx2_6 y2_6 ky2_6 z2_6 f2_6 x2_7 kx2_7 y2_7 ky2_7 z2_7 f2_7 x2_8 kx2_8 y2_8 ky2_8 z2_8 f2_8
        · go_wp2
          go_ret
          exact recP rfl (Stair.pass HOK.out (Stair.pass HK.out (Stair.pass HQ.out (Stair.pass HN.out (Stair.fall (fun h => by have := HE.out.1 h; simp at this)))))) HB3.out
        · have HKP : Hid (KindP s ⟨3, seq, name, length, group, row, rows, data, delta⟩) := HE.out.2 (by simp)
          go_wp2_with fail
          refine (l5Empty_any _ _ _ _ _ _ _ _ _ _ _ _ _ _ _ _).mono ?_
          rintro e w9 ⟨t9, rfl, ht9, b9⟩
          have HB9 : Hid (Below w.heap.size w w9) := by
            show Below w.heap.size w w9
            refine Below.trans ?_ (b9.mono ?_)
            · repeat (refine below_set ?_ (by omega))
              exact HB3.out
            · simp
              exact HB3.out.size
          clear b9
          have HT9 : Hid (t9 = true ↔ BlankP ⟨3, seq, name, length, group, row, rows, data, delta⟩) := by
            show t9 = true ↔ BlankP ⟨3, seq, name, length, group, row, rows, data, delta⟩
            rw [ht9]
            unfold EmptyQ BlankP noName
            simp [and_assoc]
            try (intros; rfl)
          clear ht9
          cases t9 with
          | false =>
            go_wp2
            go_ret
            exact recP rfl (Stair.pass HOK.out (Stair.pass HK.out (Stair.pass HQ.out (Stair.pass HN.out (Stair.pass HKP.out (Stair.fall (fun h => by have := HT9.out.2 h; simp at this))))))) HB9.out
          | true =>
            go_wp2
            go_ret
            exact recP rfl (Stair.pass HOK.out (Stair.pass HK.out (Stair.pass HQ.out (Stair.pass HN.out (Stair.pass HKP.out (Stair.pass (HT9.out.1 (by simp)) (Stair.last rfl))))))) HB9.out
      · have HN : Hid (NamedP ⟨4, seq, name, length, group, row, rows, data, delta⟩) := fun h => by simp at h
        obtain ⟨t1, h1⟩ := exB (InP group 0 (s 0 + s 1 - 1))
        obtain ⟨t2, h2⟩ := exB (InP row 0 (s 4 - 1))
        obtain ⟨t3, h3⟩ := exB (RiseP rows.1 rows.2 (s 0 + s 1 - 1))
        obtain ⟨b4', h4⟩ : ∃ b, ((data.1 : Int) != s 2 * 4) = b := ⟨_, rfl⟩
        obtain ⟨t5, h5⟩ := exB (WeightsP s ⟨4, seq, name, length, group, row, rows, data, delta⟩)
        have cG := q_same (W := W2) (fun w' => l1In_b h1 w')
        have cR := q_same (W := W2) (fun w' => l1In_b h2 w')
        have cA := q_below (W := W2) (fun w' _ => l5All_any s HOK.out w')
        have cW := q_below (W := W2) (fun w' _ => l4Wide_any s (by omega) (by omega) w')
        have cS := q_below (W := W2) (fun w' hw' => det_b (l2Rise_any _ rows.1 rows.2 hi (s 0 + s 1 - 1) w' ((H6.out.below HT2.out.bel hhi).below hw' (Nat.le_trans hhi HT2.out.bel.size))) h3)
        have cX : t1 = true → t3 = true → ∀ d os, Calls Try.prog 44 #[shapeV s, .agg #[.int .i64 4, .int .i64 seq, .string name, .int .i64 length, .int .i64 group, .int .i64 row, .slice ao6 rows.1 cap6, .slice ao7 data.1 cap7, .slice ao8 delta.1 cap8]] (Go.Sort.grow (redrawn W2 d) os) fun e w'' => e = .returned (.bool t5) ∧ ∃ p : Regrown, w'' = Go.Sort.grow (redrawn W2 p.d) p.os := fun e1 e3 => q_below (W := W2) (fun w' hw' => det_b (l5Weights_any s HOK.out ⟨4, seq, name, length, group, row, rows, data, delta⟩ _ hi w' (layRec.rd_below (layRec.rd_below HRD.out HT2.out.bel hhi) hw' (Nat.le_trans hhi HT2.out.bel.size)) (Nat.le_trans hhi (Nat.le_trans HT2.out.bel.size hw'.size)) (h1.1 e1) (h3.1 e3)) h5)
        unfold shapeV at cW cA cX
        have HE : Hid (KindP s ⟨4, seq, name, length, group, row, rows, data, delta⟩ ↔ (t1 = true ∧ t2 = true ∧ t3 = true ∧ b4' = false ∧ t5 = true)) := by
          show KindP s ⟨4, seq, name, length, group, row, rows, data, delta⟩ ↔ _
          rw [h1, h2, h3, ← h4, h5]
          unfold KindP ShareP
          simp
        have hst : (t1 = false) ∨ (t1 = true ∧ t2 = false) ∨ (t1 = true ∧ t2 = true ∧ t3 = false) ∨ (t1 = true ∧ t2 = true ∧ t3 = true ∧ b4' = true) ∨ (t1 = true ∧ t2 = true ∧ t3 = true ∧ b4' = false ∧ t5 = false) ∨ (t1 = true ∧ t2 = true ∧ t3 = true ∧ b4' = false ∧ t5 = true) := by
          clear HE h1 h2 h3 h4 h5 cG cR cS cX
          cases t1 <;> simp
          cases t2 <;> simp
          cases t3 <;> simp
          cases b4' <;> simp
        clear h1 h2 h3 h5
        go_wp2
        rcases hst with rfl | ⟨rfl, rfl⟩ | ⟨rfl, rfl, rfl⟩ | ⟨rfl, rfl, rfl, rfl⟩ | ⟨rfl, rfl, rfl, rfl, rfl⟩ | ⟨rfl, rfl, rfl, rfl, rfl⟩
        all_goals
          refine WQ.region (by kernel_rfl) (by kernel_rfl) ?_
          repeat (first | (apply WQ.skip; (case hw => rfl); intro K hK; go_simp; apply hK; clear hK K) | (apply WQ.want; (case hw => rfl); intro K hK; go_simp; first | (apply hK; clear hK K) | (apply Exists.intro; apply And.intro; (case left => intro p; (first | (go_at_call_of 23 (Value.int .i64 group); exact cG _ _) | (go_at_call_of 23 (Value.int .i64 row); exact cR _ _) | (go_at_call 42; exact cW _ _) | (go_at_call 22; exact cA _ _) | (go_at_call 43; exact cS _ _) | (go_at_call 44; exact cX rfl rfl _ _))); apply hK; clear hK K)))
          refine WQ.nil ?_
          intro w3 hw3
          have b3 := below_rg hw3
          have X3 : Box w3 w1.heap.size #[.int .i64 4, .int .i64 seq, .string name, .int .i64 length, .int .i64 group, .int .i64 row, .slice ao6 rows.1 cap6, .slice ao7 data.1 cap7, .slice ao8 delta.1 cap8] 45 := HX2.out.call b3
          have HB3 : Hid (Below w.heap.size w w3) := (HT2.out.call b3).bel
          have z3_0 : w3.cell? ⟨w1.heap.size, 0, none⟩ = some (.int .i64 4) := X3.cell 0
          have f3_0 : w3.frozen? ⟨w1.heap.size, 0, none⟩ = false := X3.frozen 0
          have z3_1 : w3.cell? ⟨w1.heap.size, 1, none⟩ = some (.int .i64 seq) := X3.cell 1
          have f3_1 : w3.frozen? ⟨w1.heap.size, 1, none⟩ = false := X3.frozen 1
          have z3_2 : w3.cell? ⟨w1.heap.size, 2, none⟩ = some (.string name) := X3.cell 2
          have f3_2 : w3.frozen? ⟨w1.heap.size, 2, none⟩ = false := X3.frozen 2
          have z3_3 : w3.cell? ⟨w1.heap.size, 3, none⟩ = some (.int .i64 length) := X3.cell 3
          have f3_3 : w3.frozen? ⟨w1.heap.size, 3, none⟩ = false := X3.frozen 3
          have z3_4 : w3.cell? ⟨w1.heap.size, 4, none⟩ = some (.int .i64 group) := X3.cell 4
          have f3_4 : w3.frozen? ⟨w1.heap.size, 4, none⟩ = false := X3.frozen 4
          have z3_5 : w3.cell? ⟨w1.heap.size, 5, none⟩ = some (.int .i64 row) := X3.cell 5
          have f3_5 : w3.frozen? ⟨w1.heap.size, 5, none⟩ = false := X3.frozen 5
          have z3_6 : w3.cell? ⟨w1.heap.size, 6, none⟩ = some (.slice ao6 rows.1 cap6) := X3.cell 6
          have f3_6 : w3.frozen? ⟨w1.heap.size, 6, none⟩ = false := X3.frozen 6
          have z3_7 : w3.cell? ⟨w1.heap.size, 7, none⟩ = some (.slice ao7 data.1 cap7) := X3.cell 7
          have f3_7 : w3.frozen? ⟨w1.heap.size, 7, none⟩ = false := X3.frozen 7
          have z3_8 : w3.cell? ⟨w1.heap.size, 8, none⟩ = some (.slice ao8 delta.1 cap8) := X3.cell 8
          have f3_8 : w3.frozen? ⟨w1.heap.size, 8, none⟩ = false := X3.frozen 8
          clear X3 b3
          clear hw3 x2_0 kx2_0 y2_0 ky2_0 z2_0 f2_0 x2_1 kx2_1 y2_1 ky2_1 z2_1 f2_1 x2_2 kx2_2 y2_2 ky2_2 z2_2 f2_2 x2_3 kx2_3 y2_3 ky2_3 z2_3 f2_3 x2_4 kx2_4 y2_4 ky2_4 z2_4 f2_4 x2_5 kx2_5 y2_5 ky2_5 z2_5 f2_5 x2_6 kx2_6 y2_6 ky2_6 z2_6 f2_6 x2_7 kx2_7 y2_7 ky2_7 z2_7 f2_7 x2_8 kx2_8 y2_8 ky2_8 z2_8 f2_8
        · go_wp2
          go_ret
          exact recP rfl (Stair.pass HOK.out (Stair.pass HK.out (Stair.pass HQ.out (Stair.pass HN.out (Stair.fall (fun h => by have := HE.out.1 h; simp at this)))))) HB3.out
        · go_wp2
          go_ret
          exact recP rfl (Stair.pass HOK.out (Stair.pass HK.out (Stair.pass HQ.out (Stair.pass HN.out (Stair.fall (fun h => by have := HE.out.1 h; simp at this)))))) HB3.out
        · go_wp2
          go_ret
          exact recP rfl (Stair.pass HOK.out (Stair.pass HK.out (Stair.pass HQ.out (Stair.pass HN.out (Stair.fall (fun h => by have := HE.out.1 h; simp at this)))))) HB3.out
        · go_wp2
          go_ret
          exact recP rfl (Stair.pass HOK.out (Stair.pass HK.out (Stair.pass HQ.out (Stair.pass HN.out (Stair.fall (fun h => by have := HE.out.1 h; simp at this)))))) HB3.out
        · go_wp2
          go_ret
          exact recP rfl (Stair.pass HOK.out (Stair.pass HK.out (Stair.pass HQ.out (Stair.pass HN.out (Stair.fall (fun h => by have := HE.out.1 h; simp at this)))))) HB3.out
        · have HKP : Hid (KindP s ⟨4, seq, name, length, group, row, rows, data, delta⟩) := HE.out.2 (by simp)
          go_wp2_with fail
          refine (l5Empty_any _ _ _ _ _ _ _ _ _ _ _ _ _ _ _ _).mono ?_
          rintro e w9 ⟨t9, rfl, ht9, b9⟩
          have HB9 : Hid (Below w.heap.size w w9) := by
            show Below w.heap.size w w9
            refine Below.trans ?_ (b9.mono ?_)
            · repeat (refine below_set ?_ (by omega))
              exact HB3.out
            · simp
              exact HB3.out.size
          clear b9
          have HT9 : Hid (t9 = true ↔ BlankP ⟨4, seq, name, length, group, row, rows, data, delta⟩) := by
            show t9 = true ↔ BlankP ⟨4, seq, name, length, group, row, rows, data, delta⟩
            rw [ht9]
            unfold EmptyQ BlankP noName
            simp [and_assoc]
            try (intros; rfl)
          clear ht9
          cases t9 with
          | false =>
            go_wp2
            go_ret
            exact recP rfl (Stair.pass HOK.out (Stair.pass HK.out (Stair.pass HQ.out (Stair.pass HN.out (Stair.pass HKP.out (Stair.fall (fun h => by have := HT9.out.2 h; simp at this))))))) HB9.out
          | true =>
            go_wp2
            go_ret
            exact recP rfl (Stair.pass HOK.out (Stair.pass HK.out (Stair.pass HQ.out (Stair.pass HN.out (Stair.pass HKP.out (Stair.pass (HT9.out.1 (by simp)) (Stair.last rfl))))))) HB9.out
    · go_wp2_with fail
      refine (l1In_b (t := false) (exBF hq) _).mono ?_
      rintro e w' ⟨rfl, hw'⟩
      obtain rfl := hw'.symm
      go_wp2
      go_ret
      exact recP rfl (Stair.pass HOK.out (Stair.pass hk (Stair.fall hq))) HT1.out.bel
  · go_wp2_with fail
    refine (l1In_b (t := false) (exBF hk) _).mono ?_
    rintro e w' ⟨rfl, hw'⟩
    obtain rfl := hw'.symm
    go_wp2
    go_ret
    exact recP rfl (Stair.pass HOK.out (Stair.fall hk)) HT1.out.bel
end Go.Proofs.Ytgpglgchbimmaaa

namespace Go.Proofs.Ytgpglgchbimmaaa
open Go.RowKit F256
set_option linter.unusedVariables false
set_option linter.unusedSimpArgs false

theorem isLetter_yes (y : Nat) (h : LetP y) (w : World) : Calls Try.prog 70 #[.int .u8 y] w fun e w' => e = .returned (.bool true) ∧ w' = w := by
  unfold LetP at h
  obtain ⟨h1, h2⟩ := h
  have t1 : decide ((97 : Int) ≤ (y : Int)) = true := by simp; omega
  have t2 : decide ((y : Int) ≤ 122) = true := by simp; omega
  go_enter Try.func70, Try.ntmps70
  go_wp2
  go_ret
  exact ⟨rfl, rfl⟩
theorem isLetter_no (y : Nat) (h : ¬ LetP y) (w : World) : Calls Try.prog 70 #[.int .u8 y] w fun e w' => e = .returned (.bool false) ∧ w' = w := by
  unfold LetP at h
  by_cases h1 : 97 ≤ y
  · have h2 : 122 < y := by omega
    have t1 : decide ((97 : Int) ≤ (y : Int)) = true := by simp; omega
    have t2 : decide ((y : Int) ≤ 122) = false := by simp; omega
    clear h
    go_enter Try.func70, Try.ntmps70
    go_wp2
    go_ret
    exact ⟨rfl, rfl⟩
  · have t1 : decide ((97 : Int) ≤ (y : Int)) = false := by simp; omega
    clear h
    go_enter Try.func70, Try.ntmps70
    go_wp2
    go_ret
    exact ⟨rfl, rfl⟩
theorem isDigit_yes (y : Nat) (h : DigP y) (w : World) : Calls Try.prog 71 #[.int .u8 y] w fun e w' => e = .returned (.bool true) ∧ w' = w := by
  unfold DigP at h
  obtain ⟨h1, h2⟩ := h
  have t1 : decide ((48 : Int) ≤ (y : Int)) = true := by simp; omega
  have t2 : decide ((y : Int) ≤ 57) = true := by simp; omega
  go_enter Try.func71, Try.ntmps71
  go_wp2
  go_ret
  exact ⟨rfl, rfl⟩
theorem isDigit_no (y : Nat) (h : ¬ DigP y) (w : World) : Calls Try.prog 71 #[.int .u8 y] w fun e w' => e = .returned (.bool false) ∧ w' = w := by
  unfold DigP at h
  by_cases h1 : 48 ≤ y
  · have h2 : 57 < y := by omega
    have t1 : decide ((48 : Int) ≤ (y : Int)) = true := by simp; omega
    have t2 : decide ((y : Int) ≤ 57) = false := by simp; omega
    clear h
    go_enter Try.func71, Try.ntmps71
    go_wp2
    go_ret
    exact ⟨rfl, rfl⟩
  · have t1 : decide ((48 : Int) ≤ (y : Int)) = false := by simp; omega
    clear h
    go_enter Try.func71, Try.ntmps71
    go_wp2
    go_ret
    exact ⟨rfl, rfl⟩

set_option maxHeartbeats 4000000 in
theorem implName_any (b : ByteArray) (hb : b.size ≤ 1048576) (w : World) :
    Calls Try.prog 47 #[.string b] w fun e w' => ∃ x, e = .returned (.int .i64 x) ∧ NmAns b x ∧ w' = w := by
  by_cases h1 : 1 ≤ b.size
  · have t1 : decide ((b.size : Int) < 1) = false := by simp; omega
    have t1n : decide (b.size < 1) = false := decide_eq_false (by omega)
    have t1z : decide (b.size = 0) = false := decide_eq_false (by omega)
    by_cases h2 : b.size ≤ 8
    · have t2 : decide ((8 : Int) < (b.size : Int)) = false := by simp; omega
      have t2n : decide (8 < b.size) = false := by simp; omega
      have hix := index_name b 0 h1
      have e0 : ((0 : Nat) : Int) = 0 := rfl
      rw [e0] at hix
      obtain ⟨y, hy⟩ : ∃ y, y = nameByte b 0 := ⟨_, rfl⟩
      rw [← hy] at hix
      have HY : Hid (y = nameByte b 0) := hy
      clear e0 hy
      by_cases h3 : LetP y
      · have HL : Hid (LetP (nameByte b 0)) := by show LetP (nameByte b 0); rw [← HY.out]; exact h3
        have CL := isLetter_yes y h3
        clear h3
        go_enter Try.func47, Try.ntmps47
        go_wp2_with fail
        refine (CL _).mono ?_
        rintro e w1 ⟨rfl, rfl⟩
        go_wp2
        go_loop [20] (fun i => ∃ k : Nat, k ≤ b.size ∧ i = .int .i64 k ∧ ∀ i, i < k → LetP (nameByte b i) ∨ DigP (nameByte b i)) (fun i => b.size - (intOf i).toNat)
        case atStart => exact ⟨0, Nat.zero_le _, rfl, fun i hi => by omega⟩
        case round =>
          obtain ⟨k, hk, rfl, hall⟩ := hrel
          have HALL : Hid (∀ i, i < k → LetP (nameByte b i) ∨ DigP (nameByte b i)) := hall
          clear hall
          by_cases hlt : k < b.size
          · have hik := index_name b k hlt
            obtain ⟨z, hz⟩ : ∃ z, z = nameByte b k := ⟨_, rfl⟩
            rw [← hz] at hik
            have HZ : Hid (z = nameByte b k) := hz
            clear hz CL
            by_cases c1 : LetP z
            · have HD : Hid (LetP (nameByte b k)) := by show LetP (nameByte b k); rw [← HZ.out]; exact c1
              have C1 := isLetter_yes z c1
              clear c1
              go_wp2_with fail
              refine (C1 _).mono ?_
              rintro e w2 ⟨rfl, rfl⟩
              go_wp2
              go_round
              case rel => exact ⟨k + 1, by omega, by go_num, fun i hi => by
                            by_cases c : i = k
                            · left; rw [c]; exact HD.out
                            · exact HALL.out i (by omega)⟩
              case measure => simp [intOf]; omega
            · have C1 := isLetter_no z c1
              by_cases c2 : DigP z
              · have HD : Hid (DigP (nameByte b k)) := by show DigP (nameByte b k); rw [← HZ.out]; exact c2
                have C2 := isDigit_yes z c2
                clear c1 c2
                go_wp2_with fail
                refine (C1 _).mono ?_
                rintro e w2 ⟨rfl, rfl⟩
                go_wp2_with fail
                refine (C2 _).mono ?_
                rintro e w3 ⟨rfl, rfl⟩
                go_wp2
                go_round
                case rel => exact ⟨k + 1, by omega, by go_num, fun i hi => by
                              by_cases c : i = k
                              · right; rw [c]; exact HD.out
                              · exact HALL.out i (by omega)⟩
                case measure => simp [intOf]; omega
              · have HN : Hid (¬ OkName b) := fun h => by
                  have := h.2.2.2 k hlt
                  rw [← HZ.out] at this
                  exact this.elim c1 c2
                have C2 := isDigit_no z c2
                clear c1 c2
                go_wp2_with fail
                refine (C1 _).mono ?_
                rintro e w2 ⟨rfl, rfl⟩
                go_wp2_with fail
                refine (C2 _).mono ?_
                rintro e w3 ⟨rfl, rfl⟩
                go_wp2
                go_ret
                exact ⟨5, rfl, .inl ⟨rfl, HN.out⟩, rfl⟩
          · obtain rfl : k = b.size := by omega
            have HY2 : Hid (OkName b) := ⟨h1, h2, HL.out, HALL.out⟩
            go_wp2
            go_ret
            exact ⟨0, rfl, .inr ⟨rfl, HY2.out⟩, rfl⟩
      · have HN : Hid (¬ OkName b) := fun h => by have := h.2.2.1; rw [← HY.out] at this; exact h3 this
        have CL := isLetter_no y h3
        clear h3
        go_enter Try.func47, Try.ntmps47
        go_wp2_with fail
        refine (CL _).mono ?_
        rintro e w1 ⟨rfl, rfl⟩
        go_wp2
        go_ret
        exact ⟨5, rfl, .inl ⟨rfl, HN.out⟩, rfl⟩
    · have HN : Hid (¬ OkName b) := fun h => h2 h.2.1
      have t2 : decide ((8 : Int) < (b.size : Int)) = true := by simp; omega
      have t2i : (8 : Int) < (b.size : Int) := by omega
      clear h2
      go_enter Try.func47, Try.ntmps47
      go_wp2
      go_ret
      exact ⟨5, rfl, .inl ⟨rfl, HN.out⟩, rfl⟩
  · have HN : Hid (¬ OkName b) := fun h => h1 h.1
    have t1 : decide ((b.size : Int) < 1) = true := by simp; omega
    have t1i : (b.size : Int) < 1 := by omega
    clear h1
    go_enter Try.func47, Try.ntmps47
    go_wp2
    go_ret
    exact ⟨5, rfl, .inl ⟨rfl, HN.out⟩, rfl⟩
end Go.Proofs.Ytgpglgchbimmaaa
