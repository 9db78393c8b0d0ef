/- Walks of the specification's WorldFault where the form of a world has a fault. -/
import Derived.Test.YtcdnhhdknkhnkaaGreatZPmissian
import Derived.Test.YtcdnhhdknkhnkaaGreatZPmissiah
import Derived.Deep.DeepCutAuto
import Derived.Test.YtcdnhhdknkhnkaaGreatZPmissiad
import Derived.Test.YtcdnhhdknkhnkaaGreatZPmissiaa
import Derived.Test.YtcdnhhdknkhnkaaGreatZPmissiae
import Derived.BigQuiet
import Derived.Deep.QuietTactic
import Derived.StillTailTactics
import Derived.Lib.MinMax
import Derived.Laws.StructEq
import Derived.Test.YtcdnhhdknkhnkaaGreatZPmissiag
set_option linter.unusedVariables false
set_option linter.unusedSimpArgs false
namespace Go.Proofs.YtcdnhhdknkhnkaaGreat
open Go.RowKit F256
set_option maxHeartbeats 16000000 in
set_option maxRecDepth 20000 in
theorem specWorld_A (d : WorldD) (cs : List Value) (hi : Nat) (w : World) (h : layWorld.rd w hi d cs) (hhi : hi ≤ w.heap.size) (hnm : ∀ t, t < d.tapes.1 → ∀ i, i < (d.tapes.2 t).recs.1 → ((d.tapes.2 t).recs.2 i).name.size ≤ 1048576) (hok' : OkShape d.shape) (hsel : ¬ (BuiltP d ∧ ApartP d.on.1 d.on.2 (d.shape 0 + d.shape 1 - 1))) :
    Calls Tryz.prog 23 #[.agg cs.toArray] w (WldPost d w) := by
  obtain ⟨ao1, cap1, ao2, cap2, ao3, cap3, rfl, g1, g2, g3, -⟩ := World_rd h
  have HRD : Hid (layWorld.rd w hi d [.int .i64 (d.shape 0), .int .i64 (d.shape 1), .int .i64 (d.shape 2), .int .i64 (d.shape 3), .int .i64 (d.shape 4), .int .i64 (d.shape 5), .int .i64 (d.shape 6), .int .i64 (d.shape 7), .int .i64 (d.shape 8), .slice ao1 d.groups.1 cap1, .slice ao2 d.on.1 cap2, .slice ao3 d.tapes.1 cap3, .int .i64 d.writes, .int .i64 d.stop, .bool d.down]) := h
  obtain ⟨v2, e2, ⟨h2, hcp2⟩, _⟩ := g2
  cases e2
  have H2 : Hid (RdI w hi (.slice ao2 d.on.1 cap2) d.on.1 d.on.2) := h2
  have HCP : Hid (CapP (.slice ao2 d.on.1 cap2) d.on.1) := hcp2
  have hm2 := h2.mx
  obtain ⟨_, _, e3, hm3, hc3⟩ := g3
  cases e3
  unfold maxLen at hm2 hm3
  have HC3 : Hid (d.tapes.1 ≠ 0 → ∃ b off, ao3 = some ⟨b, off, none⟩ ∧ b < hi ∧ ∀ i, i < d.tapes.1 → ∃ ce, layTape.rd w hi (d.tapes.2 i) ce ∧ ∀ j, j < layTape.sz → w.cell? ⟨b, off + (i * layTape.sz + j), none⟩ = ce[j]?) := hc3
  have HNM : Hid (∀ t, t < d.tapes.1 → ∀ i, i < (d.tapes.2 t).recs.1 → ((d.tapes.2 t).recs.2 i).name.size ≤ 1048576) := hnm
  clear h h2 hcp2 hc3 g1 hnm
  have T0 := one_new w #[.int .i64 (d.shape 0), .int .i64 (d.shape 1), .int .i64 (d.shape 2), .int .i64 (d.shape 3), .int .i64 (d.shape 4), .int .i64 (d.shape 5), .int .i64 (d.shape 6), .int .i64 (d.shape 7), .int .i64 (d.shape 8), .slice ao1 d.groups.1 cap1, .slice ao2 d.on.1 cap2, .slice ao3 d.tapes.1 cap3, .int .i64 d.writes, .int .i64 d.stop, .bool d.down] 38
  have CSh := fun w' => specShape_any d.shape w'
  unfold shapeV at CSh
  go_enter Tryz.func23, Tryz.ntmps23
  go_wp2_with fail
  refine (CSh _).mono ?_
  rintro e w1 ⟨x, rfl, hx, b1⟩
  have T1 : One w w1 #[.int .i64 (d.shape 0), .int .i64 (d.shape 1), .int .i64 (d.shape 2), .int .i64 (d.shape 3), .int .i64 (d.shape 4), .int .i64 (d.shape 5), .int .i64 (d.shape 6), .int .i64 (d.shape 7), .int .i64 (d.shape 8), .slice ao1 d.groups.1 cap1, .slice ao2 d.on.1 cap2, .slice ao3 d.tapes.1 cap3, .int .i64 d.writes, .int .i64 d.stop, .bool d.down] 38 := T0.call b1
  have HT1 : Hid (One w w1 #[.int .i64 (d.shape 0), .int .i64 (d.shape 1), .int .i64 (d.shape 2), .int .i64 (d.shape 3), .int .i64 (d.shape 4), .int .i64 (d.shape 5), .int .i64 (d.shape 6), .int .i64 (d.shape 7), .int .i64 (d.shape 8), .slice ao1 d.groups.1 cap1, .slice ao2 d.on.1 cap2, .slice ao3 d.tapes.1 cap3, .int .i64 d.writes, .int .i64 d.stop, .bool d.down] 38) := T1
  clear b1 T0 CSh
  have x1_0 : w1.cell? ⟨w.heap.size, 0, none⟩ = some (.int .i64 (d.shape 0)) := T1.b1.cell 0
  have kx1_0 := cell_regrown x1_0
  have x1_1 : w1.cell? ⟨w.heap.size, 1, none⟩ = some (.int .i64 (d.shape 1)) := T1.b1.cell 1
  have kx1_1 := cell_regrown x1_1
  have x1_2 : w1.cell? ⟨w.heap.size, 2, none⟩ = some (.int .i64 (d.shape 2)) := T1.b1.cell 2
  have kx1_2 := cell_regrown x1_2
  have x1_3 : w1.cell? ⟨w.heap.size, 3, none⟩ = some (.int .i64 (d.shape 3)) := T1.b1.cell 3
  have kx1_3 := cell_regrown x1_3
  have x1_4 : w1.cell? ⟨w.heap.size, 4, none⟩ = some (.int .i64 (d.shape 4)) := T1.b1.cell 4
  have kx1_4 := cell_regrown x1_4
  have x1_5 : w1.cell? ⟨w.heap.size, 5, none⟩ = some (.int .i64 (d.shape 5)) := T1.b1.cell 5
  have kx1_5 := cell_regrown x1_5
  have x1_6 : w1.cell? ⟨w.heap.size, 6, none⟩ = some (.int .i64 (d.shape 6)) := T1.b1.cell 6
  have kx1_6 := cell_regrown x1_6
  have x1_7 : w1.cell? ⟨w.heap.size, 7, none⟩ = some (.int .i64 (d.shape 7)) := T1.b1.cell 7
  have kx1_7 := cell_regrown x1_7
  have x1_8 : w1.cell? ⟨w.heap.size, 8, none⟩ = some (.int .i64 (d.shape 8)) := T1.b1.cell 8
  have kx1_8 := cell_regrown x1_8
  have x1_9 : w1.cell? ⟨w.heap.size, 9, none⟩ = some (.slice ao1 d.groups.1 cap1) := T1.b1.cell 9
  have kx1_9 := cell_regrown x1_9
  have x1_10 : w1.cell? ⟨w.heap.size, 10, none⟩ = some (.slice ao2 d.on.1 cap2) := T1.b1.cell 10
  have kx1_10 := cell_regrown x1_10
  have x1_11 : w1.cell? ⟨w.heap.size, 11, none⟩ = some (.slice ao3 d.tapes.1 cap3) := T1.b1.cell 11
  have kx1_11 := cell_regrown x1_11
  have x1_12 : w1.cell? ⟨w.heap.size, 12, none⟩ = some (.int .i64 d.writes) := T1.b1.cell 12
  have kx1_12 := cell_regrown x1_12
  have x1_13 : w1.cell? ⟨w.heap.size, 13, none⟩ = some (.int .i64 d.stop) := T1.b1.cell 13
  have kx1_13 := cell_regrown x1_13
  have x1_14 : w1.cell? ⟨w.heap.size, 14, none⟩ = some (.bool d.down) := T1.b1.cell 14
  have kx1_14 := cell_regrown x1_14
  clear T1
  rcases hx with ⟨rfl, hno⟩ | ⟨rfl, hok⟩
  · go_wp2
    go_ret
    exact wldP rfl (Stair.fall hno) HT1.out.bel
  have HOK : Hid (OkShape d.shape) := hok
  have hsb : 1 ≤ d.shape 0 ∧ d.shape 0 ≤ 4 ∧ 0 ≤ d.shape 1 ∧ d.shape 1 ≤ 2 := by
    obtain ⟨h1, _⟩ := hok
    unfold Shp3 at h1
    omega
  clear hok
  obtain ⟨t1, h1⟩ := exB (BuiltP d)
  obtain ⟨t2, h2⟩ := exB (ApartP d.on.1 d.on.2 (d.shape 0 + d.shape 1 - 1))
  obtain ⟨b3', h3⟩ : ∃ b, decide (d.shape 5 < (d.on.1 : Int)) = b := ⟨_, rfl⟩
  obtain ⟨g', h4⟩ : ∃ b, decide (0 < d.on.1) = b := ⟨_, rfl⟩
  obtain ⟨b5', h5⟩ : ∃ b, ((d.tapes.1 : Int) != 2) = b := ⟨_, rfl⟩
  have c1 := q_below (W := w1) (fun w' hw' => det_b (l5Built_any d HOK.out _ hi w' (layWorld.rd_below (layWorld.rd_below HRD.out HT1.out.bel hhi) hw' (Nat.le_trans hhi HT1.out.bel.size)) (Nat.le_trans hhi (Nat.le_trans HT1.out.bel.size hw'.size))) h1)
  have c2 := q_below (W := w1) (fun w' hw' => det_b (l5Apart_any _ d.on.1 d.on.2 hi (d.shape 0 + d.shape 1 - 1) w' ((H2.out.below HT1.out.bel hhi).below hw' (Nat.le_trans hhi HT1.out.bel.size)) HCP.out (Nat.le_trans hhi (Nat.le_trans HT1.out.bel.size hw'.size))) h2)
  have cA := q_below (W := w1) (fun w' _ => l5All_any d.shape HOK.out w')
  unfold shapeV at cA
  have wsA : IntKind.i64.wrap (d.shape 0 + d.shape 1 - 1) = d.shape 0 + d.shape 1 - 1 := by rw [IntKind.wrap_i64]; omega
  have h4' : decide (0 < (d.on.1 : Int)) = g' := by rw [← h4]; simp
  obtain ⟨dn, hdn⟩ : ∃ x, x = d.down := ⟨_, rfl⟩
  have HE : Hid (FormP d ↔ (t1 = true ∧ t2 = true ∧ b3' = false ∧ (dn = true → g' = false) ∧ b5' = false)) := by
    show FormP d ↔ _
    have e3 : (decide (d.shape 5 < (d.on.1 : Int)) = false) ↔ (d.on.1 : Int) ≤ d.shape 5 := by simp
    have e4 : (decide (0 < d.on.1) = false) ↔ d.on.1 = 0 := by simp
    have e5 : (((d.tapes.1 : Int) != 2) = false) ↔ d.tapes.1 = 2 := by simp; omega
    rw [h1, h2, ← h3, ← h4, ← h5, hdn, e3, e4, e5]
    unfold FormP OnP
    constructor
    · rintro ⟨a, ⟨b, c, e⟩, f⟩
      exact ⟨a, b, c, e, f⟩
    · rintro ⟨a, b, c, e, f⟩
      exact ⟨a, ⟨b, c, e⟩, f⟩
  have hst : t1 = false ∨ (t1 = true ∧ t2 = false) := by
    clear HE c1 c2
    cases t1 with
    | false => exact .inl rfl
    | true =>
      cases t2 with
      | false => exact .inr ⟨rfl, rfl⟩
      | true => exact absurd ⟨h1.1 rfl, h2.1 rfl⟩ hsel
  have HNF : Hid (¬ FormP d) := fun h => by
    obtain ⟨a, ⟨b, c, e⟩, f⟩ := h
    exact hsel ⟨a, b⟩
  rw [← hdn] at x1_14 kx1_14 c1
  clear h1 h2 hsel hok'
  go_upto_region 4 with fail
  clear hdn
  rcases hst with rfl | ⟨rfl, rfl⟩
  all_goals
    refine WQ.region (by kernel_rfl) (by kernel_rfl) ?_
    repeat (first | (apply WQ.free; (case hw => rfl); intro K hK; go_simp; first | (apply hK; clear hK K) | (apply Exists.intro; apply And.intro; (case left => intro p; (first | (go_at_call 52; exact c1 _ _) | (go_at_call 53; exact c2 _ _) | (go_at_call 54; exact cA _ _))); apply hK; clear hK K)) | (apply WQ.skip; (case hw => rfl); intro K hK; go_simp; apply hK; clear hK K) | (apply WQ.want; (case hw => rfl); intro K hK; go_simp; first | (apply hK; clear hK K) | (apply Exists.intro; apply And.intro; (case left => intro p; (first | (go_at_call 52; exact c1 _ _) | (go_at_call 53; exact c2 _ _) | (go_at_call 54; exact cA _ _))); apply hK; clear hK K)))
    refine WQ.nil ?_
    intro w2 hw2
    have HB2 : Hid (Below w.heap.size w w2) := (HT1.out.call (below_rg hw2)).bel
    clear hw2
    go_wp2
    go_ret
    exact wldP rfl (Stair.pass HOK.out (Stair.fall HNF.out)) HB2.out
set_option maxHeartbeats 16000000 in
set_option maxRecDepth 20000 in
theorem specWorld_B (d : WorldD) (cs : List Value) (hi : Nat) (w : World) (h : layWorld.rd w hi d cs) (hhi : hi ≤ w.heap.size) (hnm : ∀ t, t < d.tapes.1 → ∀ i, i < (d.tapes.2 t).recs.1 → ((d.tapes.2 t).recs.2 i).name.size ≤ 1048576) (hok' : OkShape d.shape) (hsel : BuiltP d ∧ ApartP d.on.1 d.on.2 (d.shape 0 + d.shape 1 - 1) ∧ ¬ ((d.on.1 : Int) ≤ d.shape 5 ∧ (d.down = true → d.on.1 = 0))) :
    Calls Tryz.prog 23 #[.agg cs.toArray] w (WldPost d w) := by
  obtain ⟨ao1, cap1, ao2, cap2, ao3, cap3, rfl, g1, g2, g3, -⟩ := World_rd h
  have HRD : Hid (layWorld.rd w hi d [.int .i64 (d.shape 0), .int .i64 (d.shape 1), .int .i64 (d.shape 2), .int .i64 (d.shape 3), .int .i64 (d.shape 4), .int .i64 (d.shape 5), .int .i64 (d.shape 6), .int .i64 (d.shape 7), .int .i64 (d.shape 8), .slice ao1 d.groups.1 cap1, .slice ao2 d.on.1 cap2, .slice ao3 d.tapes.1 cap3, .int .i64 d.writes, .int .i64 d.stop, .bool d.down]) := h
  obtain ⟨v2, e2, ⟨h2, hcp2⟩, _⟩ := g2
  cases e2
  have H2 : Hid (RdI w hi (.slice ao2 d.on.1 cap2) d.on.1 d.on.2) := h2
  have HCP : Hid (CapP (.slice ao2 d.on.1 cap2) d.on.1) := hcp2
  have hm2 := h2.mx
  obtain ⟨_, _, e3, hm3, hc3⟩ := g3
  cases e3
  unfold maxLen at hm2 hm3
  have HC3 : Hid (d.tapes.1 ≠ 0 → ∃ b off, ao3 = some ⟨b, off, none⟩ ∧ b < hi ∧ ∀ i, i < d.tapes.1 → ∃ ce, layTape.rd w hi (d.tapes.2 i) ce ∧ ∀ j, j < layTape.sz → w.cell? ⟨b, off + (i * layTape.sz + j), none⟩ = ce[j]?) := hc3
  have HNM : Hid (∀ t, t < d.tapes.1 → ∀ i, i < (d.tapes.2 t).recs.1 → ((d.tapes.2 t).recs.2 i).name.size ≤ 1048576) := hnm
  clear h h2 hcp2 hc3 g1 hnm
  have T0 := one_new w #[.int .i64 (d.shape 0), .int .i64 (d.shape 1), .int .i64 (d.shape 2), .int .i64 (d.shape 3), .int .i64 (d.shape 4), .int .i64 (d.shape 5), .int .i64 (d.shape 6), .int .i64 (d.shape 7), .int .i64 (d.shape 8), .slice ao1 d.groups.1 cap1, .slice ao2 d.on.1 cap2, .slice ao3 d.tapes.1 cap3, .int .i64 d.writes, .int .i64 d.stop, .bool d.down] 38
  have CSh := fun w' => specShape_any d.shape w'
  unfold shapeV at CSh
  go_enter Tryz.func23, Tryz.ntmps23
  go_wp2_with fail
  refine (CSh _).mono ?_
  rintro e w1 ⟨x, rfl, hx, b1⟩
  have T1 : One w w1 #[.int .i64 (d.shape 0), .int .i64 (d.shape 1), .int .i64 (d.shape 2), .int .i64 (d.shape 3), .int .i64 (d.shape 4), .int .i64 (d.shape 5), .int .i64 (d.shape 6), .int .i64 (d.shape 7), .int .i64 (d.shape 8), .slice ao1 d.groups.1 cap1, .slice ao2 d.on.1 cap2, .slice ao3 d.tapes.1 cap3, .int .i64 d.writes, .int .i64 d.stop, .bool d.down] 38 := T0.call b1
  have HT1 : Hid (One w w1 #[.int .i64 (d.shape 0), .int .i64 (d.shape 1), .int .i64 (d.shape 2), .int .i64 (d.shape 3), .int .i64 (d.shape 4), .int .i64 (d.shape 5), .int .i64 (d.shape 6), .int .i64 (d.shape 7), .int .i64 (d.shape 8), .slice ao1 d.groups.1 cap1, .slice ao2 d.on.1 cap2, .slice ao3 d.tapes.1 cap3, .int .i64 d.writes, .int .i64 d.stop, .bool d.down] 38) := T1
  clear b1 T0 CSh
  have x1_0 : w1.cell? ⟨w.heap.size, 0, none⟩ = some (.int .i64 (d.shape 0)) := T1.b1.cell 0
  have kx1_0 := cell_regrown x1_0
  have x1_1 : w1.cell? ⟨w.heap.size, 1, none⟩ = some (.int .i64 (d.shape 1)) := T1.b1.cell 1
  have kx1_1 := cell_regrown x1_1
  have x1_2 : w1.cell? ⟨w.heap.size, 2, none⟩ = some (.int .i64 (d.shape 2)) := T1.b1.cell 2
  have kx1_2 := cell_regrown x1_2
  have x1_3 : w1.cell? ⟨w.heap.size, 3, none⟩ = some (.int .i64 (d.shape 3)) := T1.b1.cell 3
  have kx1_3 := cell_regrown x1_3
  have x1_4 : w1.cell? ⟨w.heap.size, 4, none⟩ = some (.int .i64 (d.shape 4)) := T1.b1.cell 4
  have kx1_4 := cell_regrown x1_4
  have x1_5 : w1.cell? ⟨w.heap.size, 5, none⟩ = some (.int .i64 (d.shape 5)) := T1.b1.cell 5
  have kx1_5 := cell_regrown x1_5
  have x1_6 : w1.cell? ⟨w.heap.size, 6, none⟩ = some (.int .i64 (d.shape 6)) := T1.b1.cell 6
  have kx1_6 := cell_regrown x1_6
  have x1_7 : w1.cell? ⟨w.heap.size, 7, none⟩ = some (.int .i64 (d.shape 7)) := T1.b1.cell 7
  have kx1_7 := cell_regrown x1_7
  have x1_8 : w1.cell? ⟨w.heap.size, 8, none⟩ = some (.int .i64 (d.shape 8)) := T1.b1.cell 8
  have kx1_8 := cell_regrown x1_8
  have x1_9 : w1.cell? ⟨w.heap.size, 9, none⟩ = some (.slice ao1 d.groups.1 cap1) := T1.b1.cell 9
  have kx1_9 := cell_regrown x1_9
  have x1_10 : w1.cell? ⟨w.heap.size, 10, none⟩ = some (.slice ao2 d.on.1 cap2) := T1.b1.cell 10
  have kx1_10 := cell_regrown x1_10
  have x1_11 : w1.cell? ⟨w.heap.size, 11, none⟩ = some (.slice ao3 d.tapes.1 cap3) := T1.b1.cell 11
  have kx1_11 := cell_regrown x1_11
  have x1_12 : w1.cell? ⟨w.heap.size, 12, none⟩ = some (.int .i64 d.writes) := T1.b1.cell 12
  have kx1_12 := cell_regrown x1_12
  have x1_13 : w1.cell? ⟨w.heap.size, 13, none⟩ = some (.int .i64 d.stop) := T1.b1.cell 13
  have kx1_13 := cell_regrown x1_13
  have x1_14 : w1.cell? ⟨w.heap.size, 14, none⟩ = some (.bool d.down) := T1.b1.cell 14
  have kx1_14 := cell_regrown x1_14
  clear T1
  rcases hx with ⟨rfl, hno⟩ | ⟨rfl, hok⟩
  · go_wp2
    go_ret
    exact wldP rfl (Stair.fall hno) HT1.out.bel
  have HOK : Hid (OkShape d.shape) := hok
  have hsb : 1 ≤ d.shape 0 ∧ d.shape 0 ≤ 4 ∧ 0 ≤ d.shape 1 ∧ d.shape 1 ≤ 2 := by
    obtain ⟨h1, _⟩ := hok
    unfold Shp3 at h1
    omega
  clear hok
  obtain ⟨t1, h1⟩ := exB (BuiltP d)
  obtain ⟨t2, h2⟩ := exB (ApartP d.on.1 d.on.2 (d.shape 0 + d.shape 1 - 1))
  obtain ⟨b3', h3⟩ : ∃ b, decide (d.shape 5 < (d.on.1 : Int)) = b := ⟨_, rfl⟩
  obtain ⟨g', h4⟩ : ∃ b, decide (0 < d.on.1) = b := ⟨_, rfl⟩
  obtain ⟨b5', h5⟩ : ∃ b, ((d.tapes.1 : Int) != 2) = b := ⟨_, rfl⟩
  have c1 := q_below (W := w1) (fun w' hw' => det_b (l5Built_any d HOK.out _ hi w' (layWorld.rd_below (layWorld.rd_below HRD.out HT1.out.bel hhi) hw' (Nat.le_trans hhi HT1.out.bel.size)) (Nat.le_trans hhi (Nat.le_trans HT1.out.bel.size hw'.size))) h1)
  have c2 := q_below (W := w1) (fun w' hw' => det_b (l5Apart_any _ d.on.1 d.on.2 hi (d.shape 0 + d.shape 1 - 1) w' ((H2.out.below HT1.out.bel hhi).below hw' (Nat.le_trans hhi HT1.out.bel.size)) HCP.out (Nat.le_trans hhi (Nat.le_trans HT1.out.bel.size hw'.size))) h2)
  have cA := q_below (W := w1) (fun w' _ => l5All_any d.shape HOK.out w')
  unfold shapeV at cA
  have wsA : IntKind.i64.wrap (d.shape 0 + d.shape 1 - 1) = d.shape 0 + d.shape 1 - 1 := by rw [IntKind.wrap_i64]; omega
  have h4' : decide (0 < (d.on.1 : Int)) = g' := by rw [← h4]; simp
  obtain ⟨dn, hdn⟩ : ∃ x, x = d.down := ⟨_, rfl⟩
  have HE : Hid (FormP d ↔ (t1 = true ∧ t2 = true ∧ b3' = false ∧ (dn = true → g' = false) ∧ b5' = false)) := by
    show FormP d ↔ _
    have e3 : (decide (d.shape 5 < (d.on.1 : Int)) = false) ↔ (d.on.1 : Int) ≤ d.shape 5 := by simp
    have e4 : (decide (0 < d.on.1) = false) ↔ d.on.1 = 0 := by simp
    have e5 : (((d.tapes.1 : Int) != 2) = false) ↔ d.tapes.1 = 2 := by simp; omega
    rw [h1, h2, ← h3, ← h4, ← h5, hdn, e3, e4, e5]
    unfold FormP OnP
    constructor
    · rintro ⟨a, ⟨b, c, e⟩, f⟩
      exact ⟨a, b, c, e, f⟩
    · rintro ⟨a, b, c, e, f⟩
      exact ⟨a, ⟨b, c, e⟩, f⟩
  have hst : (t1 = true ∧ t2 = true ∧ b3' = true) ∨ (t1 = true ∧ t2 = true ∧ b3' = false ∧ dn = true ∧ g' = true) := by
    clear HE c1 c2
    have e1 := h1.2 hsel.1
    have e2 := h2.2 hsel.2.1
    cases b3' with
    | true => exact .inl ⟨e1, e2, rfl⟩
    | false =>
      have hc : (d.on.1 : Int) ≤ d.shape 5 := by simpa using h3
      have hd : dn = true := by
        cases dn with
        | true => rfl
        | false => exact absurd ⟨hc, fun h => by rw [← hdn] at h; cases h⟩ hsel.2.2
      have hg : g' = true := by
        cases g' with
        | true => rfl
        | false => exact absurd ⟨hc, fun _ => by simpa using h4⟩ hsel.2.2
      exact .inr ⟨e1, e2, rfl, hd, hg⟩
  have HNF : Hid (¬ FormP d) := fun h => by
    obtain ⟨a, ⟨b, c, e⟩, f⟩ := h
    exact hsel.2.2 ⟨c, e⟩
  rw [← hdn] at x1_14 kx1_14 c1
  clear h1 h2 hsel hok'
  go_upto_region 4 with fail
  clear hdn
  rcases hst with ⟨rfl, rfl, rfl⟩ | ⟨rfl, rfl, rfl, rfl, rfl⟩
  all_goals
    refine WQ.region (by kernel_rfl) (by kernel_rfl) ?_
    repeat (first | (apply WQ.free; (case hw => rfl); intro K hK; go_simp; first | (apply hK; clear hK K) | (apply Exists.intro; apply And.intro; (case left => intro p; (first | (go_at_call 52; exact c1 _ _) | (go_at_call 53; exact c2 _ _) | (go_at_call 54; exact cA _ _))); apply hK; clear hK K)) | (apply WQ.skip; (case hw => rfl); intro K hK; go_simp; apply hK; clear hK K) | (apply WQ.want; (case hw => rfl); intro K hK; go_simp; first | (apply hK; clear hK K) | (apply Exists.intro; apply And.intro; (case left => intro p; (first | (go_at_call 52; exact c1 _ _) | (go_at_call 53; exact c2 _ _) | (go_at_call 54; exact cA _ _))); apply hK; clear hK K)))
    refine WQ.nil ?_
    intro w2 hw2
    have HB2 : Hid (Below w.heap.size w w2) := (HT1.out.call (below_rg hw2)).bel
    clear hw2
    go_wp2
    go_ret
    exact wldP rfl (Stair.pass HOK.out (Stair.fall HNF.out)) HB2.out
set_option maxHeartbeats 16000000 in
set_option maxRecDepth 20000 in
theorem specWorld_C (d : WorldD) (cs : List Value) (hi : Nat) (w : World) (h : layWorld.rd w hi d cs) (hhi : hi ≤ w.heap.size) (hnm : ∀ t, t < d.tapes.1 → ∀ i, i < (d.tapes.2 t).recs.1 → ((d.tapes.2 t).recs.2 i).name.size ≤ 1048576) (hok' : OkShape d.shape) (hsel : BuiltP d ∧ ApartP d.on.1 d.on.2 (d.shape 0 + d.shape 1 - 1) ∧ ((d.on.1 : Int) ≤ d.shape 5 ∧ (d.down = true → d.on.1 = 0)) ∧ d.tapes.1 ≠ 2) :
    Calls Tryz.prog 23 #[.agg cs.toArray] w (WldPost d w) := by
  obtain ⟨ao1, cap1, ao2, cap2, ao3, cap3, rfl, g1, g2, g3, -⟩ := World_rd h
  have HRD : Hid (layWorld.rd w hi d [.int .i64 (d.shape 0), .int .i64 (d.shape 1), .int .i64 (d.shape 2), .int .i64 (d.shape 3), .int .i64 (d.shape 4), .int .i64 (d.shape 5), .int .i64 (d.shape 6), .int .i64 (d.shape 7), .int .i64 (d.shape 8), .slice ao1 d.groups.1 cap1, .slice ao2 d.on.1 cap2, .slice ao3 d.tapes.1 cap3, .int .i64 d.writes, .int .i64 d.stop, .bool d.down]) := h
  obtain ⟨v2, e2, ⟨h2, hcp2⟩, _⟩ := g2
  cases e2
  have H2 : Hid (RdI w hi (.slice ao2 d.on.1 cap2) d.on.1 d.on.2) := h2
  have HCP : Hid (CapP (.slice ao2 d.on.1 cap2) d.on.1) := hcp2
  have hm2 := h2.mx
  obtain ⟨_, _, e3, hm3, hc3⟩ := g3
  cases e3
  unfold maxLen at hm2 hm3
  have HC3 : Hid (d.tapes.1 ≠ 0 → ∃ b off, ao3 = some ⟨b, off, none⟩ ∧ b < hi ∧ ∀ i, i < d.tapes.1 → ∃ ce, layTape.rd w hi (d.tapes.2 i) ce ∧ ∀ j, j < layTape.sz → w.cell? ⟨b, off + (i * layTape.sz + j), none⟩ = ce[j]?) := hc3
  have HNM : Hid (∀ t, t < d.tapes.1 → ∀ i, i < (d.tapes.2 t).recs.1 → ((d.tapes.2 t).recs.2 i).name.size ≤ 1048576) := hnm
  clear h h2 hcp2 hc3 g1 hnm
  have T0 := one_new w #[.int .i64 (d.shape 0), .int .i64 (d.shape 1), .int .i64 (d.shape 2), .int .i64 (d.shape 3), .int .i64 (d.shape 4), .int .i64 (d.shape 5), .int .i64 (d.shape 6), .int .i64 (d.shape 7), .int .i64 (d.shape 8), .slice ao1 d.groups.1 cap1, .slice ao2 d.on.1 cap2, .slice ao3 d.tapes.1 cap3, .int .i64 d.writes, .int .i64 d.stop, .bool d.down] 38
  have CSh := fun w' => specShape_any d.shape w'
  unfold shapeV at CSh
  go_enter Tryz.func23, Tryz.ntmps23
  go_wp2_with fail
  refine (CSh _).mono ?_
  rintro e w1 ⟨x, rfl, hx, b1⟩
  have T1 : One w w1 #[.int .i64 (d.shape 0), .int .i64 (d.shape 1), .int .i64 (d.shape 2), .int .i64 (d.shape 3), .int .i64 (d.shape 4), .int .i64 (d.shape 5), .int .i64 (d.shape 6), .int .i64 (d.shape 7), .int .i64 (d.shape 8), .slice ao1 d.groups.1 cap1, .slice ao2 d.on.1 cap2, .slice ao3 d.tapes.1 cap3, .int .i64 d.writes, .int .i64 d.stop, .bool d.down] 38 := T0.call b1
  have HT1 : Hid (One w w1 #[.int .i64 (d.shape 0), .int .i64 (d.shape 1), .int .i64 (d.shape 2), .int .i64 (d.shape 3), .int .i64 (d.shape 4), .int .i64 (d.shape 5), .int .i64 (d.shape 6), .int .i64 (d.shape 7), .int .i64 (d.shape 8), .slice ao1 d.groups.1 cap1, .slice ao2 d.on.1 cap2, .slice ao3 d.tapes.1 cap3, .int .i64 d.writes, .int .i64 d.stop, .bool d.down] 38) := T1
  clear b1 T0 CSh
  have x1_0 : w1.cell? ⟨w.heap.size, 0, none⟩ = some (.int .i64 (d.shape 0)) := T1.b1.cell 0
  have kx1_0 := cell_regrown x1_0
  have x1_1 : w1.cell? ⟨w.heap.size, 1, none⟩ = some (.int .i64 (d.shape 1)) := T1.b1.cell 1
  have kx1_1 := cell_regrown x1_1
  have x1_2 : w1.cell? ⟨w.heap.size, 2, none⟩ = some (.int .i64 (d.shape 2)) := T1.b1.cell 2
  have kx1_2 := cell_regrown x1_2
  have x1_3 : w1.cell? ⟨w.heap.size, 3, none⟩ = some (.int .i64 (d.shape 3)) := T1.b1.cell 3
  have kx1_3 := cell_regrown x1_3
  have x1_4 : w1.cell? ⟨w.heap.size, 4, none⟩ = some (.int .i64 (d.shape 4)) := T1.b1.cell 4
  have kx1_4 := cell_regrown x1_4
  have x1_5 : w1.cell? ⟨w.heap.size, 5, none⟩ = some (.int .i64 (d.shape 5)) := T1.b1.cell 5
  have kx1_5 := cell_regrown x1_5
  have x1_6 : w1.cell? ⟨w.heap.size, 6, none⟩ = some (.int .i64 (d.shape 6)) := T1.b1.cell 6
  have kx1_6 := cell_regrown x1_6
  have x1_7 : w1.cell? ⟨w.heap.size, 7, none⟩ = some (.int .i64 (d.shape 7)) := T1.b1.cell 7
  have kx1_7 := cell_regrown x1_7
  have x1_8 : w1.cell? ⟨w.heap.size, 8, none⟩ = some (.int .i64 (d.shape 8)) := T1.b1.cell 8
  have kx1_8 := cell_regrown x1_8
  have x1_9 : w1.cell? ⟨w.heap.size, 9, none⟩ = some (.slice ao1 d.groups.1 cap1) := T1.b1.cell 9
  have kx1_9 := cell_regrown x1_9
  have x1_10 : w1.cell? ⟨w.heap.size, 10, none⟩ = some (.slice ao2 d.on.1 cap2) := T1.b1.cell 10
  have kx1_10 := cell_regrown x1_10
  have x1_11 : w1.cell? ⟨w.heap.size, 11, none⟩ = some (.slice ao3 d.tapes.1 cap3) := T1.b1.cell 11
  have kx1_11 := cell_regrown x1_11
  have x1_12 : w1.cell? ⟨w.heap.size, 12, none⟩ = some (.int .i64 d.writes) := T1.b1.cell 12
  have kx1_12 := cell_regrown x1_12
  have x1_13 : w1.cell? ⟨w.heap.size, 13, none⟩ = some (.int .i64 d.stop) := T1.b1.cell 13
  have kx1_13 := cell_regrown x1_13
  have x1_14 : w1.cell? ⟨w.heap.size, 14, none⟩ = some (.bool d.down) := T1.b1.cell 14
  have kx1_14 := cell_regrown x1_14
  clear T1
  rcases hx with ⟨rfl, hno⟩ | ⟨rfl, hok⟩
  · go_wp2
    go_ret
    exact wldP rfl (Stair.fall hno) HT1.out.bel
  have HOK : Hid (OkShape d.shape) := hok
  have hsb : 1 ≤ d.shape 0 ∧ d.shape 0 ≤ 4 ∧ 0 ≤ d.shape 1 ∧ d.shape 1 ≤ 2 := by
    obtain ⟨h1, _⟩ := hok
    unfold Shp3 at h1
    omega
  clear hok
  obtain ⟨t1, h1⟩ := exB (BuiltP d)
  obtain ⟨t2, h2⟩ := exB (ApartP d.on.1 d.on.2 (d.shape 0 + d.shape 1 - 1))
  obtain ⟨b3', h3⟩ : ∃ b, decide (d.shape 5 < (d.on.1 : Int)) = b := ⟨_, rfl⟩
  obtain ⟨g', h4⟩ : ∃ b, decide (0 < d.on.1) = b := ⟨_, rfl⟩
  obtain ⟨b5', h5⟩ : ∃ b, ((d.tapes.1 : Int) != 2) = b := ⟨_, rfl⟩
  have c1 := q_below (W := w1) (fun w' hw' => det_b (l5Built_any d HOK.out _ hi w' (layWorld.rd_below (layWorld.rd_below HRD.out HT1.out.bel hhi) hw' (Nat.le_trans hhi HT1.out.bel.size)) (Nat.le_trans hhi (Nat.le_trans HT1.out.bel.size hw'.size))) h1)
  have c2 := q_below (W := w1) (fun w' hw' => det_b (l5Apart_any _ d.on.1 d.on.2 hi (d.shape 0 + d.shape 1 - 1) w' ((H2.out.below HT1.out.bel hhi).below hw' (Nat.le_trans hhi HT1.out.bel.size)) HCP.out (Nat.le_trans hhi (Nat.le_trans HT1.out.bel.size hw'.size))) h2)
  have cA := q_below (W := w1) (fun w' _ => l5All_any d.shape HOK.out w')
  unfold shapeV at cA
  have wsA : IntKind.i64.wrap (d.shape 0 + d.shape 1 - 1) = d.shape 0 + d.shape 1 - 1 := by rw [IntKind.wrap_i64]; omega
  have h4' : decide (0 < (d.on.1 : Int)) = g' := by rw [← h4]; simp
  obtain ⟨dn, hdn⟩ : ∃ x, x = d.down := ⟨_, rfl⟩
  have HE : Hid (FormP d ↔ (t1 = true ∧ t2 = true ∧ b3' = false ∧ (dn = true → g' = false) ∧ b5' = false)) := by
    show FormP d ↔ _
    have e3 : (decide (d.shape 5 < (d.on.1 : Int)) = false) ↔ (d.on.1 : Int) ≤ d.shape 5 := by simp
    have e4 : (decide (0 < d.on.1) = false) ↔ d.on.1 = 0 := by simp
    have e5 : (((d.tapes.1 : Int) != 2) = false) ↔ d.tapes.1 = 2 := by simp; omega
    rw [h1, h2, ← h3, ← h4, ← h5, hdn, e3, e4, e5]
    unfold FormP OnP
    constructor
    · rintro ⟨a, ⟨b, c, e⟩, f⟩
      exact ⟨a, b, c, e, f⟩
    · rintro ⟨a, b, c, e, f⟩
      exact ⟨a, ⟨b, c, e⟩, f⟩
  have hst : (t1 = true ∧ t2 = true ∧ b3' = false ∧ dn = true ∧ g' = false ∧ b5' = true) ∨ (t1 = true ∧ t2 = true ∧ b3' = false ∧ dn = false ∧ b5' = true) := by
    clear HE c1 c2
    have e1 := h1.2 hsel.1
    have e2 := h2.2 hsel.2.1
    have e3 : b3' = false := by rw [← h3]; simpa using hsel.2.2.1.1
    have e5 : b5' = true := by rw [← h5]; have := hsel.2.2.2; simp; omega
    cases dn with
    | false => exact .inr ⟨e1, e2, e3, rfl, e5⟩
    | true => exact .inl ⟨e1, e2, e3, rfl, by rw [← h4]; have := hsel.2.2.1.2 hdn.symm; simp; omega, e5⟩
  have HNF : Hid (¬ FormP d) := fun h => by
    obtain ⟨a, ⟨b, c, e⟩, f⟩ := h
    exact hsel.2.2.2 f
  rw [← hdn] at x1_14 kx1_14 c1
  clear h1 h2 hsel hok'
  go_upto_region 4 with fail
  clear hdn
  rcases hst with ⟨rfl, rfl, rfl, rfl, rfl, rfl⟩ | ⟨rfl, rfl, rfl, rfl, rfl⟩
  all_goals
    refine WQ.region (by kernel_rfl) (by kernel_rfl) ?_
    repeat (first | (apply WQ.free; (case hw => rfl); intro K hK; go_simp; first | (apply hK; clear hK K) | (apply Exists.intro; apply And.intro; (case left => intro p; (first | (go_at_call 52; exact c1 _ _) | (go_at_call 53; exact c2 _ _) | (go_at_call 54; exact cA _ _))); apply hK; clear hK K)) | (apply WQ.skip; (case hw => rfl); intro K hK; go_simp; apply hK; clear hK K) | (apply WQ.want; (case hw => rfl); intro K hK; go_simp; first | (apply hK; clear hK K) | (apply Exists.intro; apply And.intro; (case left => intro p; (first | (go_at_call 52; exact c1 _ _) | (go_at_call 53; exact c2 _ _) | (go_at_call 54; exact cA _ _))); apply hK; clear hK K)))
    refine WQ.nil ?_
    intro w2 hw2
    have HB2 : Hid (Below w.heap.size w w2) := (HT1.out.call (below_rg hw2)).bel
    clear hw2
    go_wp2
    go_ret
    exact wldP rfl (Stair.pass HOK.out (Stair.fall HNF.out)) HB2.out
end Go.Proofs.YtcdnhhdknkhnkaaGreat
namespace Go.Proofs.YtcdnhhdknkhnkaaGreat
open Go.RowKit F256
set_option maxHeartbeats 16000000 in
set_option maxRecDepth 20000 in
theorem specWorld_D (d : WorldD) (cs : List Value) (hi : Nat) (w : World) (h : layWorld.rd w hi d cs) (hhi : hi ≤ w.heap.size) (hnm : ∀ t, t < d.tapes.1 → ∀ i, i < (d.tapes.2 t).recs.1 → ((d.tapes.2 t).recs.2 i).name.size ≤ 1048576) (hok' : OkShape d.shape) (hsel : FormP d) :
    Calls Tryz.prog 23 #[.agg cs.toArray] w (WldPost d w) := by
  obtain ⟨ao1, cap1, ao2, cap2, ao3, cap3, rfl, g1, g2, g3, -⟩ := World_rd h
  have HRD : Hid (layWorld.rd w hi d [.int .i64 (d.shape 0), .int .i64 (d.shape 1), .int .i64 (d.shape 2), .int .i64 (d.shape 3), .int .i64 (d.shape 4), .int .i64 (d.shape 5), .int .i64 (d.shape 6), .int .i64 (d.shape 7), .int .i64 (d.shape 8), .slice ao1 d.groups.1 cap1, .slice ao2 d.on.1 cap2, .slice ao3 d.tapes.1 cap3, .int .i64 d.writes, .int .i64 d.stop, .bool d.down]) := h
  obtain ⟨v2, e2, ⟨h2, hcp2⟩, _⟩ := g2
  cases e2
  have H2 : Hid (RdI w hi (.slice ao2 d.on.1 cap2) d.on.1 d.on.2) := h2
  have HCP : Hid (CapP (.slice ao2 d.on.1 cap2) d.on.1) := hcp2
  have hm2 := h2.mx
  obtain ⟨_, _, e3, hm3, hc3⟩ := g3
  cases e3
  unfold maxLen at hm2 hm3
  have HC3 : Hid (d.tapes.1 ≠ 0 → ∃ b off, ao3 = some ⟨b, off, none⟩ ∧ b < hi ∧ ∀ i, i < d.tapes.1 → ∃ ce, layTape.rd w hi (d.tapes.2 i) ce ∧ ∀ j, j < layTape.sz → w.cell? ⟨b, off + (i * layTape.sz + j), none⟩ = ce[j]?) := hc3
  have HNM : Hid (∀ t, t < d.tapes.1 → ∀ i, i < (d.tapes.2 t).recs.1 → ((d.tapes.2 t).recs.2 i).name.size ≤ 1048576) := hnm
  clear h h2 hcp2 hc3 g1 hnm
  have T0 := one_new w #[.int .i64 (d.shape 0), .int .i64 (d.shape 1), .int .i64 (d.shape 2), .int .i64 (d.shape 3), .int .i64 (d.shape 4), .int .i64 (d.shape 5), .int .i64 (d.shape 6), .int .i64 (d.shape 7), .int .i64 (d.shape 8), .slice ao1 d.groups.1 cap1, .slice ao2 d.on.1 cap2, .slice ao3 d.tapes.1 cap3, .int .i64 d.writes, .int .i64 d.stop, .bool d.down] 38
  have CSh := fun w' => specShape_any d.shape w'
  unfold shapeV at CSh
  go_enter Tryz.func23, Tryz.ntmps23
  go_wp2_with fail
  refine (CSh _).mono ?_
  rintro e w1 ⟨x, rfl, hx, b1⟩
  have T1 : One w w1 #[.int .i64 (d.shape 0), .int .i64 (d.shape 1), .int .i64 (d.shape 2), .int .i64 (d.shape 3), .int .i64 (d.shape 4), .int .i64 (d.shape 5), .int .i64 (d.shape 6), .int .i64 (d.shape 7), .int .i64 (d.shape 8), .slice ao1 d.groups.1 cap1, .slice ao2 d.on.1 cap2, .slice ao3 d.tapes.1 cap3, .int .i64 d.writes, .int .i64 d.stop, .bool d.down] 38 := T0.call b1
  have HT1 : Hid (One w w1 #[.int .i64 (d.shape 0), .int .i64 (d.shape 1), .int .i64 (d.shape 2), .int .i64 (d.shape 3), .int .i64 (d.shape 4), .int .i64 (d.shape 5), .int .i64 (d.shape 6), .int .i64 (d.shape 7), .int .i64 (d.shape 8), .slice ao1 d.groups.1 cap1, .slice ao2 d.on.1 cap2, .slice ao3 d.tapes.1 cap3, .int .i64 d.writes, .int .i64 d.stop, .bool d.down] 38) := T1
  clear b1 T0 CSh
  have x1_0 : w1.cell? ⟨w.heap.size, 0, none⟩ = some (.int .i64 (d.shape 0)) := T1.b1.cell 0
  have kx1_0 := cell_regrown x1_0
  have x1_1 : w1.cell? ⟨w.heap.size, 1, none⟩ = some (.int .i64 (d.shape 1)) := T1.b1.cell 1
  have kx1_1 := cell_regrown x1_1
  have x1_2 : w1.cell? ⟨w.heap.size, 2, none⟩ = some (.int .i64 (d.shape 2)) := T1.b1.cell 2
  have kx1_2 := cell_regrown x1_2
  have x1_3 : w1.cell? ⟨w.heap.size, 3, none⟩ = some (.int .i64 (d.shape 3)) := T1.b1.cell 3
  have kx1_3 := cell_regrown x1_3
  have x1_4 : w1.cell? ⟨w.heap.size, 4, none⟩ = some (.int .i64 (d.shape 4)) := T1.b1.cell 4
  have kx1_4 := cell_regrown x1_4
  have x1_5 : w1.cell? ⟨w.heap.size, 5, none⟩ = some (.int .i64 (d.shape 5)) := T1.b1.cell 5
  have kx1_5 := cell_regrown x1_5
  have x1_6 : w1.cell? ⟨w.heap.size, 6, none⟩ = some (.int .i64 (d.shape 6)) := T1.b1.cell 6
  have kx1_6 := cell_regrown x1_6
  have x1_7 : w1.cell? ⟨w.heap.size, 7, none⟩ = some (.int .i64 (d.shape 7)) := T1.b1.cell 7
  have kx1_7 := cell_regrown x1_7
  have x1_8 : w1.cell? ⟨w.heap.size, 8, none⟩ = some (.int .i64 (d.shape 8)) := T1.b1.cell 8
  have kx1_8 := cell_regrown x1_8
  have x1_9 : w1.cell? ⟨w.heap.size, 9, none⟩ = some (.slice ao1 d.groups.1 cap1) := T1.b1.cell 9
  have kx1_9 := cell_regrown x1_9
  have x1_10 : w1.cell? ⟨w.heap.size, 10, none⟩ = some (.slice ao2 d.on.1 cap2) := T1.b1.cell 10
  have kx1_10 := cell_regrown x1_10
  have x1_11 : w1.cell? ⟨w.heap.size, 11, none⟩ = some (.slice ao3 d.tapes.1 cap3) := T1.b1.cell 11
  have kx1_11 := cell_regrown x1_11
  have x1_12 : w1.cell? ⟨w.heap.size, 12, none⟩ = some (.int .i64 d.writes) := T1.b1.cell 12
  have kx1_12 := cell_regrown x1_12
  have x1_13 : w1.cell? ⟨w.heap.size, 13, none⟩ = some (.int .i64 d.stop) := T1.b1.cell 13
  have kx1_13 := cell_regrown x1_13
  have x1_14 : w1.cell? ⟨w.heap.size, 14, none⟩ = some (.bool d.down) := T1.b1.cell 14
  have kx1_14 := cell_regrown x1_14
  clear T1
  rcases hx with ⟨rfl, hno⟩ | ⟨rfl, hok⟩
  · go_wp2
    go_ret
    exact wldP rfl (Stair.fall hno) HT1.out.bel
  have HOK : Hid (OkShape d.shape) := hok
  have hsb : 1 ≤ d.shape 0 ∧ d.shape 0 ≤ 4 ∧ 0 ≤ d.shape 1 ∧ d.shape 1 ≤ 2 := by
    obtain ⟨h1, _⟩ := hok
    unfold Shp3 at h1
    omega
  clear hok
  obtain ⟨t1, h1⟩ := exB (BuiltP d)
  obtain ⟨t2, h2⟩ := exB (ApartP d.on.1 d.on.2 (d.shape 0 + d.shape 1 - 1))
  obtain ⟨b3', h3⟩ : ∃ b, decide (d.shape 5 < (d.on.1 : Int)) = b := ⟨_, rfl⟩
  obtain ⟨g', h4⟩ : ∃ b, decide (0 < d.on.1) = b := ⟨_, rfl⟩
  obtain ⟨b5', h5⟩ : ∃ b, ((d.tapes.1 : Int) != 2) = b := ⟨_, rfl⟩
  have c1 := q_below (W := w1) (fun w' hw' => det_b (l5Built_any d HOK.out _ hi w' (layWorld.rd_below (layWorld.rd_below HRD.out HT1.out.bel hhi) hw' (Nat.le_trans hhi HT1.out.bel.size)) (Nat.le_trans hhi (Nat.le_trans HT1.out.bel.size hw'.size))) h1)
  have c2 := q_below (W := w1) (fun w' hw' => det_b (l5Apart_any _ d.on.1 d.on.2 hi (d.shape 0 + d.shape 1 - 1) w' ((H2.out.below HT1.out.bel hhi).below hw' (Nat.le_trans hhi HT1.out.bel.size)) HCP.out (Nat.le_trans hhi (Nat.le_trans HT1.out.bel.size hw'.size))) h2)
  have cA := q_below (W := w1) (fun w' _ => l5All_any d.shape HOK.out w')
  unfold shapeV at cA
  have wsA : IntKind.i64.wrap (d.shape 0 + d.shape 1 - 1) = d.shape 0 + d.shape 1 - 1 := by rw [IntKind.wrap_i64]; omega
  have h4' : decide (0 < (d.on.1 : Int)) = g' := by rw [← h4]; simp
  obtain ⟨dn, hdn⟩ : ∃ x, x = d.down := ⟨_, rfl⟩
  have HE : Hid (FormP d ↔ (t1 = true ∧ t2 = true ∧ b3' = false ∧ (dn = true → g' = false) ∧ b5' = false)) := by
    show FormP d ↔ _
    have e3 : (decide (d.shape 5 < (d.on.1 : Int)) = false) ↔ (d.on.1 : Int) ≤ d.shape 5 := by simp
    have e4 : (decide (0 < d.on.1) = false) ↔ d.on.1 = 0 := by simp
    have e5 : (((d.tapes.1 : Int) != 2) = false) ↔ d.tapes.1 = 2 := by simp; omega
    rw [h1, h2, ← h3, ← h4, ← h5, hdn, e3, e4, e5]
    unfold FormP OnP
    constructor
    · rintro ⟨a, ⟨b, c, e⟩, f⟩
      exact ⟨a, b, c, e, f⟩
    · rintro ⟨a, b, c, e, f⟩
      exact ⟨a, ⟨b, c, e⟩, f⟩
  have hst : (t1 = true ∧ t2 = true ∧ b3' = false ∧ dn = true ∧ g' = false ∧ b5' = false) ∨ (t1 = true ∧ t2 = true ∧ b3' = false ∧ dn = false ∧ b5' = false) := by
    obtain ⟨a1, a2, a3, a4, a5⟩ := HE.out.1 hsel
    cases dn with
    | true => exact .inl ⟨a1, a2, a3, rfl, a4 rfl, a5⟩
    | false => exact .inr ⟨a1, a2, a3, rfl, a5⟩
  have HFM : Hid (FormP d) := hsel
  have htp : d.tapes.1 = 2 := hsel.2.2
  have HTP : Hid (d.tapes.1 = 2) := htp
  rw [← hdn] at x1_14 kx1_14 c1
  clear h1 h2 hsel hok' htp HE
  go_upto_region 4 with fail
  go_cut [51] (fun v wx => v = .bool false ∧ Below w1.heap.size w1 wx)
  case first =>
    clear hdn
    rcases hst with ⟨rfl, rfl, rfl, rfl, rfl, rfl⟩ | ⟨rfl, rfl, rfl, rfl, rfl⟩
    all_goals
      refine WQ.region (by kernel_rfl) (by kernel_rfl) ?_
      repeat (first | (apply WQ.free; (case hw => rfl); intro K hK; go_simp; first | (apply hK; clear hK K) | (apply Exists.intro; apply And.intro; (case left => intro p; (first | (go_at_call 52; exact c1 _ _) | (go_at_call 53; exact c2 _ _) | (go_at_call 54; exact cA _ _))); apply hK; clear hK K)) | (apply WQ.skip; (case hw => rfl); intro K hK; go_simp; apply hK; clear hK K) | (apply WQ.want; (case hw => rfl); intro K hK; go_simp; first | (apply hK; clear hK K) | (apply Exists.intro; apply And.intro; (case left => intro p; (first | (go_at_call 52; exact c1 _ _) | (go_at_call 53; exact c2 _ _) | (go_at_call 54; exact cA _ _))); apply hK; clear hK K)))
      refine WQ.nil ?_
      intro w2 hw2
      have HB2 : Hid (Below w1.heap.size w1 w2) := below_rg hw2
      clear hw2
      go_wp2
      go_meet
      exact ⟨rfl, HB2.out⟩
  case rest =>
    obtain ⟨rfl, b2⟩ := hcut
    obtain ⟨w2, rfl⟩ : ∃ x, x = wc := ⟨_, rfl⟩
    have T2 : One w w2 #[.int .i64 (d.shape 0), .int .i64 (d.shape 1), .int .i64 (d.shape 2), .int .i64 (d.shape 3), .int .i64 (d.shape 4), .int .i64 (d.shape 5), .int .i64 (d.shape 6), .int .i64 (d.shape 7), .int .i64 (d.shape 8), .slice ao1 d.groups.1 cap1, .slice ao2 d.on.1 cap2, .slice ao3 d.tapes.1 cap3, .int .i64 d.writes, .int .i64 d.stop, .bool d.down] 38 := HT1.out.call b2
    rw [hdn] at *
    clear x1_0 kx1_0 x1_1 kx1_1 x1_2 kx1_2 x1_3 kx1_3 x1_4 kx1_4 x1_5 kx1_5 x1_6 kx1_6 x1_7 kx1_7 x1_8 kx1_8 x1_9 kx1_9 x1_10 kx1_10 x1_11 kx1_11 x1_12 kx1_12 x1_13 kx1_13 x1_14 kx1_14 c1 c2 cA hst h3 h4 h4' h5 b2 HT1 wsA hdn
    obtain ⟨b3, off3, he3, hb3, hel3⟩ := HC3.out (by have := HTP.out; omega)
    subst he3
    have HT2 : Hid (One w w2 #[.int .i64 (d.shape 0), .int .i64 (d.shape 1), .int .i64 (d.shape 2), .int .i64 (d.shape 3), .int .i64 (d.shape 4), .int .i64 (d.shape 5), .int .i64 (d.shape 6), .int .i64 (d.shape 7), .int .i64 (d.shape 8), .slice ao1 d.groups.1 cap1, .slice ao2 d.on.1 cap2, .slice (some ⟨b3, off3, none⟩) d.tapes.1 cap3, .int .i64 d.writes, .int .i64 d.stop, .bool d.down] 38) := T2
    have HEL : Hid (∀ i, i < d.tapes.1 → ∃ ce, layTape.rd w hi (d.tapes.2 i) ce ∧ ∀ j, j < layTape.sz → w.cell? ⟨b3, off3 + (i * layTape.sz + j), none⟩ = ce[j]?) := hel3
    obtain ⟨ce0, hr0, hce0⟩ := elem_rd (t := 0) hel3 T2.bel hhi hb3 (show 0 < d.tapes.1 by have := HTP.out; omega)
    obtain ⟨ce1, hr1, hce1⟩ := elem_rd (t := 0) hel3 T2.bel hhi hb3 (show 1 < d.tapes.1 by have := HTP.out; omega)
    obtain ⟨ap0, cp0, rfl, gt0⟩ := Tape_rd hr0
    obtain ⟨ap1, cp1, rfl, gt1⟩ := Tape_rd hr1
    have hl0 : (d.tapes.2 0).recs.1 ≤ maxLen := by obtain ⟨_, _, _, h, _⟩ := gt0; exact h
    have hl1 : (d.tapes.2 1).recs.1 ≤ maxLen := by obtain ⟨_, _, _, h, _⟩ := gt1; exact h
    unfold maxLen at hl0 hl1
    have q0 : w2.cell? ⟨b3, off3 + 1, none⟩ = some (.slice ap0 (d.tapes.2 0).recs.1 cp0) := by
      have := hce0 1 (by decide)
      simpa using this
    have q1 : w2.cell? ⟨b3, off3 + 2 + 1, none⟩ = some (.slice ap1 (d.tapes.2 1).recs.1 cp1) := hce1 1 (by decide)
    have q1' : w2.cell? ⟨b3, off3 + 3, none⟩ = some (.slice ap1 (d.tapes.2 1).recs.1 cp1) := hce1 1 (by decide)
    have x2_11 : w2.cell? ⟨w.heap.size, 11, none⟩ = some (.slice (some ⟨b3, off3, none⟩) d.tapes.1 cap3) := T2.b1.cell 11
    obtain ⟨f0, k0⟩ : ∃ b, decide (200 < (d.tapes.2 0).recs.1) = b := ⟨_, rfl⟩
    obtain ⟨f1, k1⟩ : ∃ b, decide (200 < (d.tapes.2 1).recs.1) = b := ⟨_, rfl⟩
    have k0' : decide (200 < ((d.tapes.2 0).recs.1 : Int)) = f0 := by rw [← k0]; congr 1; apply propext; omega
    have k1' : decide (200 < ((d.tapes.2 1).recs.1 : Int)) = f1 := by rw [← k1]; congr 1; apply propext; omega
    clear hce0 hce1 hr0 hr1 gt0 gt1 hel3 T2
    have hge : 2 ≤ d.tapes.1 := by have := HTP.out; omega
    have hle : d.tapes.1 ≤ 2 := by have := HTP.out; omega
    have HF0 : Hid (f0 = false → (d.tapes.2 0).recs.1 ≤ 200) := fun e => by rw [← k0] at e; simpa using e
    have HF1 : Hid (f1 = false → (d.tapes.2 1).recs.1 ≤ 200) := fun e => by rw [← k1] at e; simpa using e
    have HG0 : Hid (f0 = true → ¬ (d.tapes.2 0).recs.1 ≤ 200) := fun e => by rw [← k0] at e; simpa using e
    have HG1 : Hid (f1 = true → ¬ (d.tapes.2 1).recs.1 ≤ 200) := fun e => by rw [← k1] at e; simpa using e
    cases f0 with
    | true =>
      go_wp2
      go_ret
      exact wldP rfl (Stair.pass HOK.out (Stair.pass HFM.out (Stair.fall (fun h => HG0.out (by simp) (h 0 (by omega)))))) HT2.out.bel
    | false =>
    cases f1 with
    | true =>
      go_wp2
      go_ret
      exact wldP rfl (Stair.pass HOK.out (Stair.pass HFM.out (Stair.fall (fun h => HG1.out (by simp) (h 1 (by omega)))))) HT2.out.bel
    | false =>
    have HFW : Hid (FewP d) := fun t ht => by
      by_cases c : t = 0
      · subst c; exact HF0.out (by simp)
      · obtain rfl : t = 1 := by omega
        exact HF1.out (by simp)
    go_wp2
    clear k0 k1 k0' k1' HF0 HF1 HG0 HG1 q0 q1 q1' x2_11 hl0 hl1
    go_loopw [4] (fun v wr => ∃ t : Nat, t ≤ d.tapes.1 ∧ v = .int .i64 t ∧ (∀ u, u < t → ∀ k, k < (d.tapes.2 u).recs.1 → RecAns d.shape ((d.tapes.2 u).recs.2 k) 0) ∧ One w wr #[.int .i64 (d.shape 0), .int .i64 (d.shape 1), .int .i64 (d.shape 2), .int .i64 (d.shape 3), .int .i64 (d.shape 4), .int .i64 (d.shape 5), .int .i64 (d.shape 6), .int .i64 (d.shape 7), .int .i64 (d.shape 8), .slice ao1 d.groups.1 cap1, .slice ao2 d.on.1 cap2, .slice (some ⟨b3, off3, none⟩) d.tapes.1 cap3, .int .i64 d.writes, .int .i64 d.stop, .bool d.down] 38) (fun v _ => d.tapes.1 - (intOf v).toNat)
    case atStart => exact ⟨0, Nat.zero_le _, rfl, fun i hi => by omega, HT2.out⟩
    case round =>
      clear HT2
      obtain ⟨t, ht, rfl, hal, T3⟩ := hrel
      obtain ⟨wo, rfl⟩ : ∃ x, x = wr := ⟨_, rfl⟩
      have HAL : Hid (∀ u, u < t → ∀ k, k < (d.tapes.2 u).recs.1 → RecAns d.shape ((d.tapes.2 u).recs.2 k) 0) := hal
      have HT3 : Hid (One w wo #[.int .i64 (d.shape 0), .int .i64 (d.shape 1), .int .i64 (d.shape 2), .int .i64 (d.shape 3), .int .i64 (d.shape 4), .int .i64 (d.shape 5), .int .i64 (d.shape 6), .int .i64 (d.shape 7), .int .i64 (d.shape 8), .slice ao1 d.groups.1 cap1, .slice ao2 d.on.1 cap2, .slice (some ⟨b3, off3, none⟩) d.tapes.1 cap3, .int .i64 d.writes, .int .i64 d.stop, .bool d.down] 38) := T3
      clear hal
      by_cases hlt : t < d.tapes.1
      · have zo : w.heap.size < wo.heap.size := T3.b1.lt
        have hd2 : decide ((t : Int) < 2) = true := decide_eq_true (by omega)
        clear T3
        go_wp2
        go_loopw [5] (fun v wx => ∃ i : Nat, i ≤ (d.tapes.2 t).recs.1 ∧ v = .int .i64 i ∧ (∀ k, k < i → RecAns d.shape ((d.tapes.2 t).recs.2 k) 0) ∧ One w wx #[.int .i64 (d.shape 0), .int .i64 (d.shape 1), .int .i64 (d.shape 2), .int .i64 (d.shape 3), .int .i64 (d.shape 4), .int .i64 (d.shape 5), .int .i64 (d.shape 6), .int .i64 (d.shape 7), .int .i64 (d.shape 8), .slice ao1 d.groups.1 cap1, .slice ao2 d.on.1 cap2, .slice (some ⟨b3, off3, none⟩) d.tapes.1 cap3, .int .i64 d.writes, .int .i64 d.stop, .bool d.down] 38) (fun v _ => (d.tapes.2 t).recs.1 - (intOf v).toNat)
        case atStart => exact ⟨0, Nat.zero_le _, rfl, fun i hi => by omega, HT3.out⟩
        case round =>
          clear HT3
          obtain ⟨i, hi', rfl, hal2, T4⟩ := hrel
          obtain ⟨wx, rfl⟩ : ∃ x, x = wr := ⟨_, rfl⟩
          have HAL2 : Hid (∀ k, k < i → RecAns d.shape ((d.tapes.2 t).recs.2 k) 0) := hal2
          have HT4 : Hid (One w wx #[.int .i64 (d.shape 0), .int .i64 (d.shape 1), .int .i64 (d.shape 2), .int .i64 (d.shape 3), .int .i64 (d.shape 4), .int .i64 (d.shape 5), .int .i64 (d.shape 6), .int .i64 (d.shape 7), .int .i64 (d.shape 8), .slice ao1 d.groups.1 cap1, .slice ao2 d.on.1 cap2, .slice (some ⟨b3, off3, none⟩) d.tapes.1 cap3, .int .i64 d.writes, .int .i64 d.stop, .bool d.down] 38) := T4
          have zx : w.heap.size < wx.heap.size := T4.b1.lt
          clear hal2
          obtain ⟨ct, hrt, hct⟩ := elem_rd (t := 0) HEL.out T4.bel hhi hb3 hlt
          obtain ⟨ap, cp, rfl, gt⟩ := Tape_rd hrt
          have c1 : wx.cell? ⟨b3, off3 + t * 2 + 1, none⟩ = some (.slice ap (d.tapes.2 t).recs.1 cp) := hct 1 (by decide)
          obtain ⟨_, _, et, hmt, hct'⟩ := gt
          cases et
          unfold maxLen at hmt
          have HCT : Hid ((d.tapes.2 t).recs.1 ≠ 0 → ∃ b off, ap = some ⟨b, off, none⟩ ∧ b < hi ∧ ∀ i, i < (d.tapes.2 t).recs.1 → ∃ ce, layRec.rd wx hi ((d.tapes.2 t).recs.2 i) ce ∧ ∀ j, j < layRec.sz → wx.cell? ⟨b, off + (i * layRec.sz + j), none⟩ = ce[j]?) := hct'
          have x5_11 : wx.cell? ⟨w.heap.size, 11, none⟩ = some (.slice (some ⟨b3, off3, none⟩) d.tapes.1 cap3) := T4.b1.cell 11
          clear hct hrt hct'
          by_cases hli : i < (d.tapes.2 t).recs.1
          · obtain ⟨b6, off6, he6, hb6, hel6⟩ := HCT.out (by omega)
            subst he6
            obtain ⟨cr, hrr, hcr⟩ := hel6 i hli
            obtain ⟨ro6, rc6, ro7, rc7, ro8, rc8, rfl, -⟩ := Rec_rd hrr
            have r0 : wx.cell? ⟨b6, off6 + i * 9, none⟩ = some (.int .i64 ((d.tapes.2 t).recs.2 i).kind) := hcr 0 (by decide)
            have kr0 := cell_regrown r0
            have r1 : wx.cell? ⟨b6, off6 + i * 9 + 1, none⟩ = some (.int .i64 ((d.tapes.2 t).recs.2 i).seq) := hcr 1 (by decide)
            have kr1 := cell_regrown r1
            have r2 : wx.cell? ⟨b6, off6 + i * 9 + 2, none⟩ = some (.string ((d.tapes.2 t).recs.2 i).name) := hcr 2 (by decide)
            have kr2 := cell_regrown r2
            have r3 : wx.cell? ⟨b6, off6 + i * 9 + 3, none⟩ = some (.int .i64 ((d.tapes.2 t).recs.2 i).length) := hcr 3 (by decide)
            have kr3 := cell_regrown r3
            have r4 : wx.cell? ⟨b6, off6 + i * 9 + 4, none⟩ = some (.int .i64 ((d.tapes.2 t).recs.2 i).group) := hcr 4 (by decide)
            have kr4 := cell_regrown r4
            have r5 : wx.cell? ⟨b6, off6 + i * 9 + 5, none⟩ = some (.int .i64 ((d.tapes.2 t).recs.2 i).row) := hcr 5 (by decide)
            have kr5 := cell_regrown r5
            have r6 : wx.cell? ⟨b6, off6 + i * 9 + 6, none⟩ = some (.slice ro6 ((d.tapes.2 t).recs.2 i).rows.1 rc6) := hcr 6 (by decide)
            have kr6 := cell_regrown r6
            have r7 : wx.cell? ⟨b6, off6 + i * 9 + 7, none⟩ = some (.slice ro7 ((d.tapes.2 t).recs.2 i).data.1 rc7) := hcr 7 (by decide)
            have kr7 := cell_regrown r7
            have r8 : wx.cell? ⟨b6, off6 + i * 9 + 8, none⟩ = some (.slice ro8 ((d.tapes.2 t).recs.2 i).delta.1 rc8) := hcr 8 (by decide)
            have kr8 := cell_regrown r8
            have HRR : Hid (layRec.rd wx hi ((d.tapes.2 t).recs.2 i) [.int .i64 ((d.tapes.2 t).recs.2 i).kind, .int .i64 ((d.tapes.2 t).recs.2 i).seq, .string ((d.tapes.2 t).recs.2 i).name, .int .i64 ((d.tapes.2 t).recs.2 i).length, .int .i64 ((d.tapes.2 t).recs.2 i).group, .int .i64 ((d.tapes.2 t).recs.2 i).row, .slice ro6 ((d.tapes.2 t).recs.2 i).rows.1 rc6, .slice ro7 ((d.tapes.2 t).recs.2 i).data.1 rc7, .slice ro8 ((d.tapes.2 t).recs.2 i).delta.1 rc8]) := hrr
            obtain ⟨X, hX⟩ : ∃ X, RecAns d.shape ((d.tapes.2 t).recs.2 i) X := stair_ex (K := isZ) ⟨0, rfl⟩ _
            have HX : Hid (RecAns d.shape ((d.tapes.2 t).recs.2 i) X) := hX
            have kx5_11 := cell_regrown x5_11
            have kc1 := cell_regrown c1
            have x5_0 : wx.cell? ⟨w.heap.size, 0, none⟩ = some (.int .i64 (d.shape 0)) := T4.b1.cell 0
            have kx5_0 := cell_regrown x5_0
            have x5_1 : wx.cell? ⟨w.heap.size, 1, none⟩ = some (.int .i64 (d.shape 1)) := T4.b1.cell 1
            have kx5_1 := cell_regrown x5_1
            have x5_2 : wx.cell? ⟨w.heap.size, 2, none⟩ = some (.int .i64 (d.shape 2)) := T4.b1.cell 2
            have kx5_2 := cell_regrown x5_2
            have x5_3 : wx.cell? ⟨w.heap.size, 3, none⟩ = some (.int .i64 (d.shape 3)) := T4.b1.cell 3
            have kx5_3 := cell_regrown x5_3
            have x5_4 : wx.cell? ⟨w.heap.size, 4, none⟩ = some (.int .i64 (d.shape 4)) := T4.b1.cell 4
            have kx5_4 := cell_regrown x5_4
            have x5_5 : wx.cell? ⟨w.heap.size, 5, none⟩ = some (.int .i64 (d.shape 5)) := T4.b1.cell 5
            have kx5_5 := cell_regrown x5_5
            have x5_6 : wx.cell? ⟨w.heap.size, 6, none⟩ = some (.int .i64 (d.shape 6)) := T4.b1.cell 6
            have kx5_6 := cell_regrown x5_6
            have x5_7 : wx.cell? ⟨w.heap.size, 7, none⟩ = some (.int .i64 (d.shape 7)) := T4.b1.cell 7
            have kx5_7 := cell_regrown x5_7
            have x5_8 : wx.cell? ⟨w.heap.size, 8, none⟩ = some (.int .i64 (d.shape 8)) := T4.b1.cell 8
            have kx5_8 := cell_regrown x5_8
            have CR := q_below (W := wx) (fun w' hw' => rec_det HX.out (specRec_any d.shape ((d.tapes.2 t).recs.2 i) _ hi w' (layRec.rd_below HRR.out hw' (by omega)) (Nat.le_trans (by omega) hw'.size) (HNM.out t hlt i hli)))
            unfold shapeV at CR
            clear hel6 hcr hrr T4 hX
            go_upto_region 14 with fail
            refine WQ.region (by kernel_rfl) (by kernel_rfl) ?_
            repeat (first | (apply WQ.skip; (case hw => rfl); intro K hK; go_simp; apply hK; clear hK K) | (apply WQ.want; (case hw => rfl); intro K hK; go_simp; first | (apply hK; clear hK K) | (apply Exists.intro; apply And.intro; (case left => intro p; (first | (go_at_call 55; exact CR _ _))); apply hK; clear hK K)))
            refine WQ.nil ?_
            intro w6 hw6
            have HT6 : Hid (One w w6 #[.int .i64 (d.shape 0), .int .i64 (d.shape 1), .int .i64 (d.shape 2), .int .i64 (d.shape 3), .int .i64 (d.shape 4), .int .i64 (d.shape 5), .int .i64 (d.shape 6), .int .i64 (d.shape 7), .int .i64 (d.shape 8), .slice ao1 d.groups.1 cap1, .slice ao2 d.on.1 cap2, .slice (some ⟨b3, off3, none⟩) d.tapes.1 cap3, .int .i64 d.writes, .int .i64 d.stop, .bool d.down] 38) := HT4.out.call (below_rg hw6)
            clear hw6 CR r0 kr0 x5_0 kx5_0 r1 kr1 x5_1 kx5_1 r2 kr2 x5_2 kx5_2 r3 kr3 x5_3 kx5_3 r4 kr4 x5_4 kx5_4 r5 kr5 x5_5 kx5_5 r6 kr6 x5_6 kx5_6 r7 kr7 x5_7 kx5_7 r8 kr8 x5_8 kx5_8 x5_11 kx5_11 c1 kc1
            by_cases hx0 : X = 0
            · subst hx0
              go_wp2
              go_roundw
              case rel => exact ⟨i + 1, by omega, by go_num, fun k hk => by
                            by_cases c : k = i
                            · subst c; exact HX.out
                            · exact HAL2.out k (by omega), HT6.out⟩
              case measure => simp [intOf]; omega
            · have hne : (X != 0) = true := by simp [hx0]
              go_wp2
              go_ret
              exact wldP rfl (Stair.pass HOK.out (Stair.pass HFM.out (Stair.pass HFW.out (Stair.last (.inl ⟨hx0, .inr ⟨hx0, t, i, hlt, hli, HX.out, HAL2.out, HAL.out⟩⟩))))) HT6.out.bel
          · obtain rfl : i = (d.tapes.2 t).recs.1 := by omega
            clear T4
            go_wp2
            go_roundw
            case rel => exact ⟨t + 1, by omega, by go_num, fun u hu => by
                          by_cases c : u = t
                          · subst c; exact HAL2.out
                          · exact HAL.out u (by omega), HT4.out⟩
            case measure => simp [intOf]; omega
      · obtain rfl : t = d.tapes.1 := by omega
        clear T3
        have HRA : Hid (RecsAns d.shape d.tapes.1 d.tapes.2 0) := .inl ⟨rfl, HAL.out⟩
        go_wp2
        go_loop [7] (fun v => ∃ t : Nat, t ≤ d.tapes.1 ∧ v = .int .i64 t ∧ ∀ u, u < t → (d.tapes.2 u).wiped = true → (d.tapes.2 u).recs.1 = 0) (fun v => d.tapes.1 - (intOf v).toNat)
        case atStart => exact ⟨0, Nat.zero_le _, rfl, fun i hi => by omega⟩
        case round =>
          obtain ⟨t, ht, rfl, hal⟩ := hrel
          have HAL3 : Hid (∀ u, u < t → (d.tapes.2 u).wiped = true → (d.tapes.2 u).recs.1 = 0) := hal
          clear hal
          by_cases hlt : t < d.tapes.1
          · obtain ⟨ct, hrt, hct⟩ := elem_rd (t := 0) HEL.out HT3.out.bel hhi hb3 hlt
            obtain ⟨ap, cp, rfl, gt⟩ := Tape_rd hrt
            have c0 : wo.cell? ⟨b3, off3 + t * 2, none⟩ = some (.bool (d.tapes.2 t).wiped) := hct 0 (by decide)
            have c1 : wo.cell? ⟨b3, off3 + t * 2 + 1, none⟩ = some (.slice ap (d.tapes.2 t).recs.1 cp) := hct 1 (by decide)
            have x5_11 : wo.cell? ⟨w.heap.size, 11, none⟩ = some (.slice (some ⟨b3, off3, none⟩) d.tapes.1 cap3) := HT3.out.b1.cell 11
            obtain ⟨u, hu⟩ : ∃ u, u = (d.tapes.2 t).wiped := ⟨_, rfl⟩
            obtain ⟨g, hg⟩ : ∃ b, decide (0 < (d.tapes.2 t).recs.1) = b := ⟨_, rfl⟩
            have hg' : decide (0 < ((d.tapes.2 t).recs.1 : Int)) = g := by rw [← hg]; simp
            rw [← hu] at c0
            have HE3 : Hid (((d.tapes.2 t).wiped = true → (d.tapes.2 t).recs.1 = 0) ↔ (u = true → g = false)) := by
              show _ ↔ _
              rw [← hu, ← hg]
              simp
            clear hct hrt gt hu
            cases u with
            | false =>
              go_wp2
              go_round
              case rel => exact ⟨t + 1, by omega, by go_num, fun u hu => by
                            by_cases c : u = t
                            · subst c; exact HE3.out.2 (by simp)
                            · exact HAL3.out u (by omega)⟩
              case measure => simp [intOf]; omega
            | true =>
              cases g with
              | false =>
                go_wp2
                go_round
                case rel => exact ⟨t + 1, by omega, by go_num, fun u hu => by
                              by_cases c : u = t
                              · subst c; exact HE3.out.2 (by simp)
                              · exact HAL3.out u (by omega)⟩
                case measure => simp [intOf]; omega
              | true =>
                go_wp2
                go_ret
                exact wldP rfl (Stair.pass HOK.out (Stair.pass HFM.out (Stair.pass HFW.out (Stair.last (.inr ⟨HRA.out, Stair.fall (fun h => by have := HE3.out.1 (h t hlt); simp at this)⟩))))) HT3.out.bel
          · obtain rfl : t = d.tapes.1 := by omega
            have HCL : Hid (CleanP d) := HAL3.out
            have x5_12 : wo.cell? ⟨w.heap.size, 12, none⟩ = some (.int .i64 d.writes) := HT3.out.b1.cell 12
            have x5_13 : wo.cell? ⟨w.heap.size, 13, none⟩ = some (.int .i64 d.stop) := HT3.out.b1.cell 13
            obtain ⟨t1, h1⟩ := exB (InP d.writes 0 1000000000)
            obtain ⟨t2, h2⟩ := exB (InP d.stop (-1) 1000000000)
            have C1 := fun w' => l1In_b (w := w') h1
            have C2 := fun w' => l1In_b (w := w') h2
            have HE4 : Hid (CountP d ↔ (t1 = true ∧ t2 = true)) := by
              show CountP d ↔ _
              rw [h1, h2]
              exact Iff.rfl
            clear h1 h2
            go_wp2_with fail
            refine (C1 _).mono ?_
            rintro e w' ⟨rfl, hw'⟩
            obtain rfl := hw'.symm
            clear C1
            cases t1 with
            | false =>
              go_wp2
              go_ret
              exact wldP rfl (Stair.pass HOK.out (Stair.pass HFM.out (Stair.pass HFW.out (Stair.last (.inr ⟨HRA.out, Stair.pass HCL.out (Stair.fall (fun h => by have := HE4.out.1 h; simp at this))⟩))))) HT3.out.bel
            | true =>
              go_wp2_with fail
              refine (C2 _).mono ?_
              rintro e w' ⟨rfl, hw'⟩
              obtain rfl := hw'.symm
              clear C2
              cases t2 with
              | false =>
                go_wp2
                go_ret
                exact wldP rfl (Stair.pass HOK.out (Stair.pass HFM.out (Stair.pass HFW.out (Stair.last (.inr ⟨HRA.out, Stair.pass HCL.out (Stair.fall (fun h => by have := HE4.out.1 h; simp at this))⟩))))) HT3.out.bel
              | true =>
                go_wp2
                go_ret
                exact wldP rfl (Stair.pass HOK.out (Stair.pass HFM.out (Stair.pass HFW.out (Stair.last (.inr ⟨HRA.out, Stair.pass HCL.out (Stair.pass (HE4.out.2 (by simp)) (Stair.last rfl))⟩))))) HT3.out.bel
set_option maxHeartbeats 16000000 in
set_option maxRecDepth 20000 in
theorem specWorld_E (d : WorldD) (cs : List Value) (hi : Nat) (w : World) (h : layWorld.rd w hi d cs) (hhi : hi ≤ w.heap.size) (hnm : ∀ t, t < d.tapes.1 → ∀ i, i < (d.tapes.2 t).recs.1 → ((d.tapes.2 t).recs.2 i).name.size ≤ 1048576) (hok' : ¬ OkShape d.shape) :
    Calls Tryz.prog 23 #[.agg cs.toArray] w (WldPost d w) := by
  obtain ⟨ao1, cap1, ao2, cap2, ao3, cap3, rfl, g1, g2, g3, -⟩ := World_rd h
  have HRD : Hid (layWorld.rd w hi d [.int .i64 (d.shape 0), .int .i64 (d.shape 1), .int .i64 (d.shape 2), .int .i64 (d.shape 3), .int .i64 (d.shape 4), .int .i64 (d.shape 5), .int .i64 (d.shape 6), .int .i64 (d.shape 7), .int .i64 (d.shape 8), .slice ao1 d.groups.1 cap1, .slice ao2 d.on.1 cap2, .slice ao3 d.tapes.1 cap3, .int .i64 d.writes, .int .i64 d.stop, .bool d.down]) := h
  obtain ⟨v2, e2, ⟨h2, hcp2⟩, _⟩ := g2
  cases e2
  have H2 : Hid (RdI w hi (.slice ao2 d.on.1 cap2) d.on.1 d.on.2) := h2
  have HCP : Hid (CapP (.slice ao2 d.on.1 cap2) d.on.1) := hcp2
  have hm2 := h2.mx
  obtain ⟨_, _, e3, hm3, hc3⟩ := g3
  cases e3
  unfold maxLen at hm2 hm3
  have HC3 : Hid (d.tapes.1 ≠ 0 → ∃ b off, ao3 = some ⟨b, off, none⟩ ∧ b < hi ∧ ∀ i, i < d.tapes.1 → ∃ ce, layTape.rd w hi (d.tapes.2 i) ce ∧ ∀ j, j < layTape.sz → w.cell? ⟨b, off + (i * layTape.sz + j), none⟩ = ce[j]?) := hc3
  have HNM : Hid (∀ t, t < d.tapes.1 → ∀ i, i < (d.tapes.2 t).recs.1 → ((d.tapes.2 t).recs.2 i).name.size ≤ 1048576) := hnm
  clear h h2 hcp2 hc3 g1 hnm
  have T0 := one_new w #[.int .i64 (d.shape 0), .int .i64 (d.shape 1), .int .i64 (d.shape 2), .int .i64 (d.shape 3), .int .i64 (d.shape 4), .int .i64 (d.shape 5), .int .i64 (d.shape 6), .int .i64 (d.shape 7), .int .i64 (d.shape 8), .slice ao1 d.groups.1 cap1, .slice ao2 d.on.1 cap2, .slice ao3 d.tapes.1 cap3, .int .i64 d.writes, .int .i64 d.stop, .bool d.down] 38
  have CSh := fun w' => specShape_any d.shape w'
  unfold shapeV at CSh
  go_enter Tryz.func23, Tryz.ntmps23
  go_wp2_with fail
  refine (CSh _).mono ?_
  rintro e w1 ⟨x, rfl, hx, b1⟩
  have T1 : One w w1 #[.int .i64 (d.shape 0), .int .i64 (d.shape 1), .int .i64 (d.shape 2), .int .i64 (d.shape 3), .int .i64 (d.shape 4), .int .i64 (d.shape 5), .int .i64 (d.shape 6), .int .i64 (d.shape 7), .int .i64 (d.shape 8), .slice ao1 d.groups.1 cap1, .slice ao2 d.on.1 cap2, .slice ao3 d.tapes.1 cap3, .int .i64 d.writes, .int .i64 d.stop, .bool d.down] 38 := T0.call b1
  have HT1 : Hid (One w w1 #[.int .i64 (d.shape 0), .int .i64 (d.shape 1), .int .i64 (d.shape 2), .int .i64 (d.shape 3), .int .i64 (d.shape 4), .int .i64 (d.shape 5), .int .i64 (d.shape 6), .int .i64 (d.shape 7), .int .i64 (d.shape 8), .slice ao1 d.groups.1 cap1, .slice ao2 d.on.1 cap2, .slice ao3 d.tapes.1 cap3, .int .i64 d.writes, .int .i64 d.stop, .bool d.down] 38) := T1
  clear b1 T0 CSh
  have x1_0 : w1.cell? ⟨w.heap.size, 0, none⟩ = some (.int .i64 (d.shape 0)) := T1.b1.cell 0
  have kx1_0 := cell_regrown x1_0
  have x1_1 : w1.cell? ⟨w.heap.size, 1, none⟩ = some (.int .i64 (d.shape 1)) := T1.b1.cell 1
  have kx1_1 := cell_regrown x1_1
  have x1_2 : w1.cell? ⟨w.heap.size, 2, none⟩ = some (.int .i64 (d.shape 2)) := T1.b1.cell 2
  have kx1_2 := cell_regrown x1_2
  have x1_3 : w1.cell? ⟨w.heap.size, 3, none⟩ = some (.int .i64 (d.shape 3)) := T1.b1.cell 3
  have kx1_3 := cell_regrown x1_3
  have x1_4 : w1.cell? ⟨w.heap.size, 4, none⟩ = some (.int .i64 (d.shape 4)) := T1.b1.cell 4
  have kx1_4 := cell_regrown x1_4
  have x1_5 : w1.cell? ⟨w.heap.size, 5, none⟩ = some (.int .i64 (d.shape 5)) := T1.b1.cell 5
  have kx1_5 := cell_regrown x1_5
  have x1_6 : w1.cell? ⟨w.heap.size, 6, none⟩ = some (.int .i64 (d.shape 6)) := T1.b1.cell 6
  have kx1_6 := cell_regrown x1_6
  have x1_7 : w1.cell? ⟨w.heap.size, 7, none⟩ = some (.int .i64 (d.shape 7)) := T1.b1.cell 7
  have kx1_7 := cell_regrown x1_7
  have x1_8 : w1.cell? ⟨w.heap.size, 8, none⟩ = some (.int .i64 (d.shape 8)) := T1.b1.cell 8
  have kx1_8 := cell_regrown x1_8
  have x1_9 : w1.cell? ⟨w.heap.size, 9, none⟩ = some (.slice ao1 d.groups.1 cap1) := T1.b1.cell 9
  have kx1_9 := cell_regrown x1_9
  have x1_10 : w1.cell? ⟨w.heap.size, 10, none⟩ = some (.slice ao2 d.on.1 cap2) := T1.b1.cell 10
  have kx1_10 := cell_regrown x1_10
  have x1_11 : w1.cell? ⟨w.heap.size, 11, none⟩ = some (.slice ao3 d.tapes.1 cap3) := T1.b1.cell 11
  have kx1_11 := cell_regrown x1_11
  have x1_12 : w1.cell? ⟨w.heap.size, 12, none⟩ = some (.int .i64 d.writes) := T1.b1.cell 12
  have kx1_12 := cell_regrown x1_12
  have x1_13 : w1.cell? ⟨w.heap.size, 13, none⟩ = some (.int .i64 d.stop) := T1.b1.cell 13
  have kx1_13 := cell_regrown x1_13
  have x1_14 : w1.cell? ⟨w.heap.size, 14, none⟩ = some (.bool d.down) := T1.b1.cell 14
  have kx1_14 := cell_regrown x1_14
  clear T1
  rcases hx with ⟨rfl, hno⟩ | ⟨rfl, hok⟩
  · go_wp2
    go_ret
    exact wldP rfl (Stair.fall hno) HT1.out.bel
  exact absurd hok hok'
theorem specWorld_any (d : WorldD) (cs : List Value) (hi : Nat) (w : World) (h : layWorld.rd w hi d cs) (hhi : hi ≤ w.heap.size) (hnm : ∀ t, t < d.tapes.1 → ∀ i, i < (d.tapes.2 t).recs.1 → ((d.tapes.2 t).recs.2 i).name.size ≤ 1048576) :
    Calls Tryz.prog 23 #[.agg cs.toArray] w (WldPost d w) := by
  by_cases h0 : OkShape d.shape
  · by_cases h1 : BuiltP d ∧ ApartP d.on.1 d.on.2 (d.shape 0 + d.shape 1 - 1)
    · by_cases h2 : (d.on.1 : Int) ≤ d.shape 5 ∧ (d.down = true → d.on.1 = 0)
      · by_cases h3 : d.tapes.1 = 2
        · exact specWorld_D d cs hi w h hhi hnm h0 ⟨h1.1, ⟨h1.2, h2.1, h2.2⟩, h3⟩
        · exact specWorld_C d cs hi w h hhi hnm h0 ⟨h1.1, h1.2, h2, h3⟩
      · exact specWorld_B d cs hi w h hhi hnm h0 ⟨h1.1, h1.2, h2⟩
    · exact specWorld_A d cs hi w h hhi hnm h0 h1
  · exact specWorld_E d cs hi w h hhi hnm h0
end Go.Proofs.YtcdnhhdknkhnkaaGreat
namespace Go.Proofs.YtcdnhhdknkhnkaaGreat
open Go.RowKit F256
set_option maxHeartbeats 1000000 in
theorem index_any (v : Value) (n : Nat) (g : Nat → Int) (hi : Nat) (x : Int) (w : World) (r : RdI w hi v n g) :
    Calls Tryz.prog 144 #[v, .int .i64 x] w fun e w' => ∃ z : Int, e = .returned (.int .i64 z) ∧ (0 ≤ z ↔ ∃ t, t < n ∧ g t = x) ∧ w' = w := by
  obtain ⟨ao, cap, rfl, hm, hc⟩ := r
  unfold maxLen at hm
  go_enter Tryz.func144, Tryz.ntmps144
  go_wp2
  go_loop [8] (fun i => ∃ k : Nat, k ≤ n ∧ i = .int .i64 k ∧ ∀ i, i < k → g i ≠ x) (fun i => n - (intOf i).toNat)
  case atStart => exact ⟨0, Nat.zero_le _, rfl, fun i hi => by omega⟩
  case round =>
    obtain ⟨k, hk, rfl, hall⟩ := hrel
    have HALL : Hid (∀ i, i < k → g i ≠ x) := hall
    clear hall
    by_cases hlt : k < n
    · obtain ⟨b, off, rfl, hblt, hcell⟩ := hc (by omega)
      have hck : w.cell? ⟨b, off + k, none⟩ = some (.int .i64 (g k)) := hcell k hlt
      obtain ⟨y, hy⟩ : ∃ y, y = g k := ⟨_, rfl⟩
      have HY : Hid (y = g k) := hy
      rw [← hy] at hck
      clear hc hcell hy
      by_cases heq : x = y
      · have HP : Hid (0 ≤ (k : Int) ↔ ∃ t, t < n ∧ g t = x) := ⟨fun _ => ⟨k, hlt, by rw [← HY.out, heq]⟩, fun _ => by omega⟩
        have te : (x == y) = true := by simp [heq]
        clear heq
        go_wp2
        go_ret
        exact ⟨_, rfl, HP.out, rfl⟩
      · have te : (x == y) = false := by simp [heq]
        have HN : Hid (g k ≠ x) := by show g k ≠ x; rw [← HY.out]; exact fun h => heq h.symm
        clear heq
        go_wp2
        go_round
        case rel => exact ⟨k + 1, by omega, by go_num, fun i hi => by
                      by_cases c : i = k
                      · rw [c]; exact HN.out
                      · exact HALL.out i (by omega)⟩
        case measure => simp [intOf]; omega
    · obtain rfl : k = n := by omega
      have HP : Hid (0 ≤ (-1 : Int) ↔ ∃ t, t < k ∧ g t = x) := ⟨fun h => by omega, fun ⟨t, ht, he⟩ => absurd he (HALL.out t ht)⟩
      clear hc
      go_wp2
      go_ret
      exact ⟨-1, rfl, HP.out, rfl⟩
theorem contains_any (v : Value) (n : Nat) (g : Nat → Int) (hi : Nat) (x : Int) (w : World) (r : RdI w hi v n g) :
    Calls Tryz.prog 129 #[v, .int .i64 x] w (BoolP (∃ t, t < n ∧ g t = x) w) := by
  have C := index_any v n g hi x w r
  obtain ⟨ao, cap, rfl, hm, hc⟩ := r
  clear hc hm
  have HI : Hid (Calls Tryz.prog 144 #[.slice ao n cap, .int .i64 x] w fun e w' => ∃ z : Int, e = .returned (.int .i64 z) ∧ (0 ≤ z ↔ ∃ t, t < n ∧ g t = x) ∧ w' = w) := C
  clear C
  obtain ⟨P, hP⟩ : ∃ P : Prop, P = ∃ t, t < n ∧ g t = x := ⟨_, rfl⟩
  rw [← hP] at HI ⊢
  clear hP
  go_enter Tryz.func129, Tryz.ntmps129
  go_wp2_with fail
  refine HI.out.mono ?_
  rintro e w1 ⟨z, rfl, hz, hw1⟩
  obtain rfl := hw1.symm
  have HZ : Hid (0 ≤ z ↔ P) := hz
  clear hz HI
  by_cases h0 : 0 ≤ z
  · have HP : Hid P := HZ.out.mp h0
    go_wp2
    go_ret
    exact boolYes rfl HP.out (Below.refl _ _)
  · have HP : Hid (¬ P) := fun h => h0 (HZ.out.mpr h)
    have td : decide (0 ≤ z) = false := by simp; omega
    clear h0
    go_wp2
    go_ret
    exact boolNo rfl HP.out (Below.refl _ _)
end Go.Proofs.YtcdnhhdknkhnkaaGreat
namespace Go.Proofs.YtcdnhhdknkhnkaaGreat
open Go.RowKit
theorem Box.allocd {w : World} {b : Nat} {cs : Array Value} {t : TypeId} (h : Box w b cs t) (o : Obj) : Box (w.alloc o) b cs t := (Below.heap_alloc w o b h.lt).trans h
end Go.Proofs.YtcdnhhdknkhnkaaGreat
namespace Go.Proofs.YtcdnhhdknkhnkaaGreat
open Go.RowKit F256
theorem nearest_any (x a b : Int) (w : World) :
    Calls Tryz.prog 107 #[.int .i64 x, .int .i64 a, .int .i64 b] w fun e w' => e = .returned (.int .i64 (max a (min x b))) ∧ w' = w := by
  go_enter Tryz.func107, Tryz.ntmps107
  go_wp2
  go_ret
  exact ⟨rfl, rfl⟩
def nearZ (x a b : Int) : Int := max a (min x b)
theorem nearZ_iff (x a b : Int) (h : a ≤ b) : x = nearZ x a b ↔ a ≤ x ∧ x ≤ b := by
  unfold nearZ
  omega
theorem nearest_z (x a b : Int) (w : World) :
    Calls Tryz.prog 107 #[.int .i64 x, .int .i64 a, .int .i64 b] w fun e w' => e = .returned (.int .i64 (nearZ x a b)) ∧ w' = w := nearest_any x a b w
set_option maxRecDepth 20000 in
set_option maxHeartbeats 8000000 in
theorem nearestShape_any (a0 a1 a2 a3 a4 a5 a6 a7 a8 : Int) (w : World) :
    Calls Tryz.prog 100 #[.agg #[.int .i64 a0, .int .i64 a1, .int .i64 a2, .int .i64 a3, .int .i64 a4, .int .i64 a5, .int .i64 a6, .int .i64 a7, .int .i64 a8]] w fun e w' => e = .returned (.agg #[.int .i64 (nearZ a0 1 4), .int .i64 (nearZ a1 0 2), .int .i64 (nearZ a2 1 3), .int .i64 (nearZ a3 0 2), .int .i64 (nearZ a4 1 6), .int .i64 (nearZ a5 1 6), .int .i64 (nearZ a6 1 4), .int .i64 (nearZ a7 1 6), .int .i64 (nearZ a8 0 400)]) ∧ Below w.heap.size w w' := by
  go_enter Tryz.func100, Tryz.ntmps100
  go_wp2_with fail
  have XA := (box_new w #[.int .i64 a0, .int .i64 a1, .int .i64 a2, .int .i64 a3, .int .i64 a4, .int .i64 a5, .int .i64 a6, .int .i64 a7, .int .i64 a8] 34).allocd (.cells #[.int .i64 0, .int .i64 0, .int .i64 0, .int .i64 0, .int .i64 0, .int .i64 0, .int .i64 0, .int .i64 0, .int .i64 0] 34)
  have XZ := box_new (w.alloc (.cells #[.int .i64 a0, .int .i64 a1, .int .i64 a2, .int .i64 a3, .int .i64 a4, .int .i64 a5, .int .i64 a6, .int .i64 a7, .int .i64 a8] 34)) #[.int .i64 0, .int .i64 0, .int .i64 0, .int .i64 0, .int .i64 0, .int .i64 0, .int .i64 0, .int .i64 0, .int .i64 0] 34
  have hz : (w.alloc (.cells #[.int .i64 a0, .int .i64 a1, .int .i64 a2, .int .i64 a3, .int .i64 a4, .int .i64 a5, .int .i64 a6, .int .i64 a7, .int .i64 a8] 34)).heap.size = w.heap.size + 1 := by simp
  rw [hz] at XZ
  have BA : Below w.heap.size w ((w.alloc (.cells #[.int .i64 a0, .int .i64 a1, .int .i64 a2, .int .i64 a3, .int .i64 a4, .int .i64 a5, .int .i64 a6, .int .i64 a7, .int .i64 a8] 34)).alloc (.cells #[.int .i64 0, .int .i64 0, .int .i64 0, .int .i64 0, .int .i64 0, .int .i64 0, .int .i64 0, .int .i64 0, .int .i64 0] 34)) := ((Below.refl _ _).alloc (Nat.le_refl _) _).alloc (by simp) _
  obtain ⟨wA, hwA⟩ : ∃ x, x = (w.alloc (.cells #[.int .i64 a0, .int .i64 a1, .int .i64 a2, .int .i64 a3, .int .i64 a4, .int .i64 a5, .int .i64 a6, .int .i64 a7, .int .i64 a8] 34)).alloc (.cells #[.int .i64 0, .int .i64 0, .int .i64 0, .int .i64 0, .int .i64 0, .int .i64 0, .int .i64 0, .int .i64 0, .int .i64 0] 34) := ⟨_, rfl⟩
  rw [← hwA] at XA XZ BA ⊢
  clear hwA hz
  refine wp_region_still_tail 28 (by kernel_rfl) (by kernel_rfl) ?_
  have XA' : Box { wA with drawn := wA.drawn + 1 } w.heap.size #[.int .i64 a0, .int .i64 a1, .int .i64 a2, .int .i64 a3, .int .i64 a4, .int .i64 a5, .int .i64 a6, .int .i64 a7, .int .i64 a8] 34 := XA
  have XZ' : Box { wA with drawn := wA.drawn + 1 } (w.heap.size + 1) #[.int .i64 0, .int .i64 0, .int .i64 0, .int .i64 0, .int .i64 0, .int .i64 0, .int .i64 0, .int .i64 0, .int .i64 0] 34 := XZ
  have BA' : Below w.heap.size w { wA with drawn := wA.drawn + 1 } := ⟨BA.os, BA.tape, BA.output, BA.size, BA.block⟩
  obtain ⟨wB, hwB⟩ : ∃ x : World, x = { wA with drawn := wA.drawn + 1 } := ⟨_, rfl⟩
  rw [← hwB] at XA' XZ' BA' ⊢
  clear XA XZ BA hwB
  obtain ⟨x0, x1, x2, x3, x4, x5, x6, x7, x8⟩ := box9 XA'
  obtain ⟨y0, y1, y2, y3, y4, y5, y6, y7, y8⟩ := box9 XZ'
  simp only [List.take_succ_cons, List.take_zero, List.drop_succ_cons, List.drop_zero]
  still_step
  still_step
  still_call (nearest_z _ _ _ _)
  still_step
  still_step
  still_call (nearest_z _ _ _ _)
  still_step
  still_step
  still_call (nearest_z _ _ _ _)
  still_step
  still_step
  still_call (nearest_z _ _ _ _)
  still_step
  still_step
  still_call (nearest_z _ _ _ _)
  still_step
  still_step
  still_call (nearest_z _ _ _ _)
  still_step
  still_step
  still_call (nearest_z _ _ _ _)
  still_step
  still_step
  still_call (nearest_z _ _ _ _)
  still_step
  still_step
  still_call (nearest_z _ _ _ _)
  still_step
  refine wpStill_nil ?_
  have z0 : wB.frozen? ⟨w.heap.size + 1, 0, none⟩ = false := XZ'.frozen 0
  have z1 : wB.frozen? ⟨w.heap.size + 1, 1, none⟩ = false := XZ'.frozen 1
  have z2 : wB.frozen? ⟨w.heap.size + 1, 2, none⟩ = false := XZ'.frozen 2
  have z3 : wB.frozen? ⟨w.heap.size + 1, 3, none⟩ = false := XZ'.frozen 3
  have z4 : wB.frozen? ⟨w.heap.size + 1, 4, none⟩ = false := XZ'.frozen 4
  have z5 : wB.frozen? ⟨w.heap.size + 1, 5, none⟩ = false := XZ'.frozen 5
  have z6 : wB.frozen? ⟨w.heap.size + 1, 6, none⟩ = false := XZ'.frozen 6
  have z7 : wB.frozen? ⟨w.heap.size + 1, 7, none⟩ = false := XZ'.frozen 7
  have z8 : wB.frozen? ⟨w.heap.size + 1, 8, none⟩ = false := XZ'.frozen 8
  go_wp2
  refine bodyPost_ret (v := .agg #[.int .i64 (nearZ a0 1 4), .int .i64 (nearZ a1 0 2), .int .i64 (nearZ a2 1 3), .int .i64 (nearZ a3 0 2), .int .i64 (nearZ a4 1 6), .int .i64 (nearZ a5 1 6), .int .i64 (nearZ a6 1 4), .int .i64 (nearZ a7 1 6), .int .i64 (nearZ a8 0 400)]) (by simp [results, Tryz.results100, go_sem, y0, y1, y2, y3, y4, y5, y6, y7, y8]) rfl ⟨rfl, ?_⟩
  exact (((((((((BA'.setCell (Nat.le_succ _) _).setCell (Nat.le_succ _) _).setCell (Nat.le_succ _) _).setCell (Nat.le_succ _) _).setCell (Nat.le_succ _) _).setCell (Nat.le_succ _) _).setCell (Nat.le_succ _) _).setCell (Nat.le_succ _) _).setCell (Nat.le_succ _) _)
end Go.Proofs.YtcdnhhdknkhnkaaGreat
namespace Go.Proofs.YtcdnhhdknkhnkaaGreat
open Go.RowKit F256
theorem shape_eq_yes (a0 a1 a2 a3 a4 a5 a6 a7 a8 : Int) (w : World) : (Op.equalIn 10000 34 (.agg #[.int .i64 a0, .int .i64 a1, .int .i64 a2, .int .i64 a3, .int .i64 a4, .int .i64 a5, .int .i64 a6, .int .i64 a7, .int .i64 a8]) (.agg #[.int .i64 a0, .int .i64 a1, .int .i64 a2, .int .i64 a3, .int .i64 a4, .int .i64 a5, .int .i64 a6, .int .i64 a7, .int .i64 a8])).run Tryz.prog w = .ok true w := by
  have u3 := Tryz.underlying2
  rw [show (10000 : Nat) = 9999 + 1 from rfl, run_equalIn_agg w 9999 34 _ _ (by kernel_rfl) (by kernel_rfl)]
  simp only [Program.fieldsOf, Tryz.underlying34]
  go_simp
theorem shape_eq_no (a0 a1 a2 a3 a4 a5 a6 a7 a8 b0 b1 b2 b3 b4 b5 b6 b7 b8 : Int) (h : ¬ (a0 = b0 ∧ a1 = b1 ∧ a2 = b2 ∧ a3 = b3 ∧ a4 = b4 ∧ a5 = b5 ∧ a6 = b6 ∧ a7 = b7 ∧ a8 = b8)) (w : World) : (Op.equalIn 10000 34 (.agg #[.int .i64 a0, .int .i64 a1, .int .i64 a2, .int .i64 a3, .int .i64 a4, .int .i64 a5, .int .i64 a6, .int .i64 a7, .int .i64 a8]) (.agg #[.int .i64 b0, .int .i64 b1, .int .i64 b2, .int .i64 b3, .int .i64 b4, .int .i64 b5, .int .i64 b6, .int .i64 b7, .int .i64 b8])).run Tryz.prog w = .ok false w := by
  have u3 := Tryz.underlying2
  rw [show (10000 : Nat) = 9999 + 1 from rfl, run_equalIn_agg w 9999 34 _ _ (by kernel_rfl) (by kernel_rfl)]
  simp only [Program.fieldsOf, Tryz.underlying34]
  have H : Hid (¬ (a0 = b0 ∧ a1 = b1 ∧ a2 = b2 ∧ a3 = b3 ∧ a4 = b4 ∧ a5 = b5 ∧ a6 = b6 ∧ a7 = b7 ∧ a8 = b8)) := h
  clear h
  go_simp
  exact fun h0 h1 h2 h3 h4 h5 h6 h7 h8 => H.out ⟨h0, h1, h2, h3, h4, h5, h6, h7, h8⟩
theorem ok_near (s : Nat → Int) : OkShape s ↔ s 0 = nearZ (s 0) 1 4 ∧ s 1 = nearZ (s 1) 0 2 ∧ s 2 = nearZ (s 2) 1 3 ∧ s 3 = nearZ (s 3) 0 2 ∧ s 4 = nearZ (s 4) 1 6 ∧ s 5 = nearZ (s 5) 1 6 ∧ s 6 = nearZ (s 6) 1 4 ∧ s 7 = nearZ (s 7) 1 6 ∧ s 8 = nearZ (s 8) 0 400 := by
  unfold OkShape Shp3 Shp
  rw [nearZ_iff (s 0) 1 4 (by omega), nearZ_iff (s 1) 0 2 (by omega), nearZ_iff (s 2) 1 3 (by omega), nearZ_iff (s 3) 0 2 (by omega), nearZ_iff (s 4) 1 6 (by omega), nearZ_iff (s 5) 1 6 (by omega), nearZ_iff (s 6) 1 4 (by omega), nearZ_iff (s 7) 1 6 (by omega), nearZ_iff (s 8) 0 400 (by omega)]
  omega
set_option maxHeartbeats 4000000 in
theorem implShape_any (s : Nat → Int) (w : World) :
    Calls Tryz.prog 61 #[shapeV s] w fun e w' => ∃ x, e = .returned (.int .i64 x) ∧ ShFAns s x ∧ Below w.heap.size w w' := by
  have HK : Hid (OkShape s ↔ s 0 = nearZ (s 0) 1 4 ∧ s 1 = nearZ (s 1) 0 2 ∧ s 2 = nearZ (s 2) 1 3 ∧ s 3 = nearZ (s 3) 0 2 ∧ s 4 = nearZ (s 4) 1 6 ∧ s 5 = nearZ (s 5) 1 6 ∧ s 6 = nearZ (s 6) 1 4 ∧ s 7 = nearZ (s 7) 1 6 ∧ s 8 = nearZ (s 8) 0 400) := ok_near s
  unfold shapeV
  obtain ⟨a0, h0⟩ : ∃ a, a = s 0 := ⟨_, rfl⟩
  obtain ⟨a1, h1⟩ : ∃ a, a = s 1 := ⟨_, rfl⟩
  obtain ⟨a2, h2⟩ : ∃ a, a = s 2 := ⟨_, rfl⟩
  obtain ⟨a3, h3⟩ : ∃ a, a = s 3 := ⟨_, rfl⟩
  obtain ⟨a4, h4⟩ : ∃ a, a = s 4 := ⟨_, rfl⟩
  obtain ⟨a5, h5⟩ : ∃ a, a = s 5 := ⟨_, rfl⟩
  obtain ⟨a6, h6⟩ : ∃ a, a = s 6 := ⟨_, rfl⟩
  obtain ⟨a7, h7⟩ : ∃ a, a = s 7 := ⟨_, rfl⟩
  obtain ⟨a8, h8⟩ : ∃ a, a = s 8 := ⟨_, rfl⟩
  rw [← h0, ← h1, ← h2, ← h3, ← h4, ← h5, ← h6, ← h7, ← h8]
  have HK2 : Hid (OkShape s ↔ a0 = nearZ a0 1 4 ∧ a1 = nearZ a1 0 2 ∧ a2 = nearZ a2 1 3 ∧ a3 = nearZ a3 0 2 ∧ a4 = nearZ a4 1 6 ∧ a5 = nearZ a5 1 6 ∧ a6 = nearZ a6 1 4 ∧ a7 = nearZ a7 1 6 ∧ a8 = nearZ a8 0 400) := by
    show OkShape s ↔ _
    rw [h0, h1, h2, h3, h4, h5, h6, h7, h8]
    exact HK.out
  clear HK h0 h1 h2 h3 h4 h5 h6 h7 h8
  have CN := nearestShape_any a0 a1 a2 a3 a4 a5 a6 a7 a8
  have XA := box_new w #[.int .i64 a0, .int .i64 a1, .int .i64 a2, .int .i64 a3, .int .i64 a4, .int .i64 a5, .int .i64 a6, .int .i64 a7, .int .i64 a8] 34
  obtain ⟨x0, x1, x2, x3, x4, x5, x6, x7, x8⟩ := box9 XA
  have HX : Hid (Box (w.alloc (.cells #[.int .i64 a0, .int .i64 a1, .int .i64 a2, .int .i64 a3, .int .i64 a4, .int .i64 a5, .int .i64 a6, .int .i64 a7, .int .i64 a8] 34)) w.heap.size #[.int .i64 a0, .int .i64 a1, .int .i64 a2, .int .i64 a3, .int .i64 a4, .int .i64 a5, .int .i64 a6, .int .i64 a7, .int .i64 a8] 34) := XA
  have HB : Hid (Below w.heap.size w (w.alloc (.cells #[.int .i64 a0, .int .i64 a1, .int .i64 a2, .int .i64 a3, .int .i64 a4, .int .i64 a5, .int .i64 a6, .int .i64 a7, .int .i64 a8] 34))) := bnew (Below.refl _ _)
  obtain ⟨wA, hwA⟩ : ∃ x, x = w.alloc (.cells #[.int .i64 a0, .int .i64 a1, .int .i64 a2, .int .i64 a3, .int .i64 a4, .int .i64 a5, .int .i64 a6, .int .i64 a7, .int .i64 a8] 34) := ⟨_, rfl⟩
  rw [← hwA] at x0 x1 x2 x3 x4 x5 x6 x7 x8 HX HB
  clear XA
  by_cases ok : OkShape s
  · have HO : Hid (OkShape s) := ok
    obtain ⟨e0, e1, e2, e3, e4, e5, e6, e7, e8⟩ := HK2.out.mp ok
    rw [← e0, ← e1, ← e2, ← e3, ← e4, ← e5, ← e6, ← e7, ← e8] at CN
    have heq := shape_eq_yes a0 a1 a2 a3 a4 a5 a6 a7 a8
    clear e0 e1 e2 e3 e4 e5 e6 e7 e8 ok
    go_enter Tryz.func61, Tryz.ntmps61
    go_wp2_with fail
    rw [← hwA]
    clear hwA
    go_region_with (go_at_call 100; refine (CN _).mono ?_; rintro ee w2 ⟨rfl, hb2⟩; have hB2 : Below wA.heap.size wA w2 := ⟨hb2.os, hb2.tape, hb2.output, hb2.size, hb2.block⟩; obtain ⟨y0, y1, y2, y3, y4, y5, y6, y7, y8⟩ := box9 (HX.out.below hB2 HX.out.lt))
    all_goals
      go_wp2
      go_ret
      exact ⟨0, rfl, .inr ⟨rfl, HO.out⟩, HB.out.trans (hB2.mono HB.out.size)⟩
  · have HO : Hid (¬ OkShape s) := ok
    have hno : ¬ (a0 = nearZ a0 1 4 ∧ a1 = nearZ a1 0 2 ∧ a2 = nearZ a2 1 3 ∧ a3 = nearZ a3 0 2 ∧ a4 = nearZ a4 1 6 ∧ a5 = nearZ a5 1 6 ∧ a6 = nearZ a6 1 4 ∧ a7 = nearZ a7 1 6 ∧ a8 = nearZ a8 0 400) := fun h => ok (HK2.out.mpr h)
    have heq := shape_eq_no a0 a1 a2 a3 a4 a5 a6 a7 a8 (nearZ a0 1 4) (nearZ a1 0 2) (nearZ a2 1 3) (nearZ a3 0 2) (nearZ a4 1 6) (nearZ a5 1 6) (nearZ a6 1 4) (nearZ a7 1 6) (nearZ a8 0 400) hno
    clear hno ok
    go_enter Tryz.func61, Tryz.ntmps61
    go_wp2_with fail
    rw [← hwA]
    clear hwA
    go_region_with (go_at_call 100; refine (CN _).mono ?_; rintro ee w2 ⟨rfl, hb2⟩; have hB2 : Below wA.heap.size wA w2 := ⟨hb2.os, hb2.tape, hb2.output, hb2.size, hb2.block⟩; obtain ⟨y0, y1, y2, y3, y4, y5, y6, y7, y8⟩ := box9 (HX.out.below hB2 HX.out.lt))
    all_goals
      go_wp2
      go_ret
      exact ⟨3, rfl, .inl ⟨rfl, HO.out⟩, HB.out.trans (hB2.mono HB.out.size)⟩
end Go.Proofs.YtcdnhhdknkhnkaaGreat
namespace Go.Proofs.YtcdnhhdknkhnkaaGreat
open Go.RowKit F256
set_option maxHeartbeats 4000000 in
theorem rowLength_any (s : Nat → Int) (h1 : 1 ≤ s 2) (h2 : s 2 ≤ 1000) (w : World) :
    Calls Tryz.prog 156 #[shapeV s] w fun e w' => e = .returned (.int .i64 (s 2 * 4)) ∧ Below w.heap.size w w' := by
  unfold shapeV
  obtain ⟨a2, h0⟩ : ∃ a, a = s 2 := ⟨_, rfl⟩
  rw [← h0] at h1 h2 ⊢
  clear h0
  have B0 : Below w.heap.size w (w.alloc (.cells #[.int .i64 (s 0), .int .i64 (s 1), .int .i64 a2, .int .i64 (s 3), .int .i64 (s 4), .int .i64 (s 5), .int .i64 (s 6), .int .i64 (s 7), .int .i64 (s 8)] 34)) := bnew (Below.refl _ _)
  go_enter Tryz.func156, Tryz.ntmps156
  go_wp2
  go_ret
  exact ⟨rfl, B0⟩
set_option maxHeartbeats 4000000 in
theorem implParts_any (s : Nat → Int) (l : Int) (w : World) :
    Calls Tryz.prog 155 #[shapeV s, .int .i64 l] w fun e w' => ∃ x c, e = .returned (intR c x) ∧ PfAns s l x c ∧ Below w.heap.size w w' := by
  unfold shapeV
  go_enter Tryz.func155, Tryz.ntmps155
  go_wp2_with fail
  refine (implShape_any s _).mono ?_
  rintro e w1 ⟨x, rfl, hx, B1'⟩
  obtain ⟨X1, X2, B1, z1⟩ := two_new B1'
  obtain ⟨x0, x1, x2, x3, x4, x5, x6, x7, x8⟩ := box9 X1
  obtain ⟨y0, y1, y2, y3⟩ := res_cells X2
  have HX : Hid (Box w1 (w.heap.size + 1) #[.int .i64 0, .int .i64 0] 46) := X2
  have HX1 : Hid (Box w1 w.heap.size #[.int .i64 (s 0), .int .i64 (s 1), .int .i64 (s 2), .int .i64 (s 3), .int .i64 (s 4), .int .i64 (s 5), .int .i64 (s 6), .int .i64 (s 7), .int .i64 (s 8)] 34) := X1
  clear B1' X1 X2
  rcases hx with ⟨rfl, hx⟩ | ⟨rfl, hx⟩
  · have HN : Hid (¬ OkShape s) := hx
    clear hx
    go_wp2
    exact bodyPost_ret (v := intR 3 0) (by simp [results, Tryz.results155, go_sem, intR, y0, y1]) rfl ⟨0, 3, rfl, .inl ⟨HN.out, rfl, rfl⟩, (B1.setCell (Nat.le_succ _) _).setCell (Nat.le_succ _) _⟩
  · have HO : Hid (OkShape s) := hx
    have HD : Hid (1 ≤ s 2 ∧ s 2 ≤ 1000) := by show 1 ≤ s 2 ∧ s 2 ≤ 1000; have := hx.2.1; unfold Shp at this; omega
    clear hx
    have CL := rowLength_any s HD.out.1 HD.out.2
    unfold shapeV at CL
    have HM : Hid (∀ m, m = (l + s 2 * 4 - 1) / (s 2 * 4) → 1 ≤ l → l ≤ 3 * (s 2 * 4) → PfAns s l m 0) := fun m hm h1 h2 => .inr (.inr (.inr ⟨HO.out, h1, h2, rfl, hm⟩))
    have HM2 : Hid (1 ≤ l → 3 * (s 2 * 4) < l → PfAns s l 0 2) := fun h1 h2 => .inr (.inr (.inl ⟨HO.out, h1, h2, rfl, rfl⟩))
    obtain ⟨S, hS⟩ : ∃ S, S = s 2 * 4 := ⟨_, rfl⟩
    rw [← hS] at CL HM HM2
    have q1 : 4 ≤ S := by have := HD.out.1; omega
    have q2 : S ≤ 4000 := by have := HD.out.2; omega
    clear hS
    by_cases c1 : l < 1
    · go_wp2
      exact bodyPost_ret (v := intR 6 0) (by simp [results, Tryz.results155, go_sem, intR, y0, y1]) rfl ⟨0, 6, rfl, .inr (.inl ⟨HO.out, c1, rfl, rfl⟩), (B1.setCell (Nat.le_succ _) _).setCell (Nat.le_succ _) _⟩
    · go_wp2_with fail
      refine (CL _).mono ?_
      rintro e w2 ⟨rfl, B2⟩
      have z2 := B2.size
      have B12 : Below w.heap.size w w2 := B1.trans (B2.mono B1.size)
      have HX2 : Hid (Box w2 (w.heap.size + 1) #[.int .i64 0, .int .i64 0] 46) := HX.out.below B2 z1
      have HY2 : Hid (Box w2 w.heap.size #[.int .i64 (s 0), .int .i64 (s 1), .int .i64 (s 2), .int .i64 (s 3), .int .i64 (s 4), .int .i64 (s 5), .int .i64 (s 6), .int .i64 (s 7), .int .i64 (s 8)] 34) := HX1.out.below B2 (by omega)
      clear x0 x1 x2 x3 x4 x5 x6 x7 x8 y0 y1 y2 y3 B2 HX HX1
      obtain ⟨y0, y1, y2, y3⟩ := res_cells HX2.out
      obtain ⟨x0, x1, x2, x3, x4, x5, x6, x7, x8⟩ := box9 HY2.out
      by_cases c2 : 3 * S < l
      · have t2 : decide (3 * S < l) = true := by simp; omega
        go_wp2
        exact bodyPost_ret (v := intR 2 0) (by simp [results, Tryz.results155, go_sem, intR, y0, y1]) rfl ⟨0, 2, rfl, HM2.out (by omega) c2, (B12.setCell (Nat.le_succ _) _).setCell (Nat.le_succ _) _⟩
      · have t2 : decide (3 * S < l) = false := by simp; omega
        have q3 : 0 ≤ l + S - 1 := by omega
        go_wp2_with fail
        have K0 : Hid (Below w2.heap.size w2 w2) := Below.refl _ _
        go_region_with (go_at_call 156; refine (CL _).mono ?_; rintro ee w3 ⟨rfl, hb3⟩; (first | (have hB2 : Below w2.heap.size w2 w3 := hB.trans ((⟨hb3.os, hb3.tape, hb3.output, hb3.size, hb3.block⟩ : Below _ _ _).mono hB.size); clear hb3; obtain ⟨v0, v1, v2, v3⟩ := res_cells (HX2.out.below hB2 (by omega)); obtain ⟨u0, u1, u2, u3, u4, u5, u6, u7, u8⟩ := box9 (HY2.out.below hB2 (by omega))) | (have hB : Below w2.heap.size w2 w3 := ⟨hb3.os, hb3.tape, hb3.output, hb3.size, hb3.block⟩; clear hb3; obtain ⟨u0, u1, u2, u3, u4, u5, u6, u7, u8⟩ := box9 (HY2.out.below hB (by omega)))))
        all_goals
          have B4 : Below w.heap.size w w3 := B12.trans (hB2.mono B12.size)
          go_wp2
          exact bodyPost_ret (v := intR 0 ((l + S - 1) / S)) (by simp [results, Tryz.results155, go_sem, intR, v0, v1]) rfl ⟨(l + S - 1) / S, 0, rfl, HM.out _ rfl (by omega) (by omega), (B4.setCell (Nat.le_succ _) _).setCell (Nat.le_succ _) _⟩
end Go.Proofs.YtcdnhhdknkhnkaaGreat
namespace Go.Proofs.YtcdnhhdknkhnkaaGreat
open Go.RowKit F256
theorem near_b {x a b : Int} {t : Bool} (hab : a ≤ b) (ht : t = true ↔ InP x a b) : (x == nearZ x a b) = t := by
  have := nearZ_iff x a b hab
  cases t with
  | true => simpa [InP] using this.2 (ht.1 rfl)
  | false =>
    have hn : ¬ InP x a b := fun h => by have := ht.2 h; cases this
    simp
    intro h
    exact hn (this.1 h)
theorem inBounds_b {x a b : Int} {t : Bool} (hab : a ≤ b) (ht : t = true ↔ InP x a b) (w : World) :
    Calls Tryz.prog 68 #[.int .i64 x, .int .i64 a, .int .i64 b] w fun e w' => e = .returned (.bool t) ∧ w' = w := by
  have e1 := near_b hab ht
  clear ht
  go_enter Tryz.func68, Tryz.ntmps68
  go_wp2_with fail
  refine (nearest_z x a b _).mono ?_
  rintro e w' ⟨rfl, hw'⟩
  obtain rfl := hw'.symm
  obtain ⟨y, hy⟩ : ∃ y, y = nearZ x a b := ⟨_, rfl⟩
  rw [← hy] at e1 ⊢
  clear hy
  go_wp2
  go_ret
  exact ⟨by simp [e1], rfl⟩
theorem groupCount_any (s : Nat → Int) (h : OkShape s) (w : World) :
    Calls Tryz.prog 101 #[shapeV s] w fun e w' => e = .returned (.int .i64 (s 0 + s 1)) ∧ Below w.heap.size w w' := by
  obtain ⟨h1, h2, _⟩ := h
  unfold Shp3 at h1
  have B0 := (one_new w #[.int .i64 (s 0), .int .i64 (s 1), .int .i64 (s 2), .int .i64 (s 3), .int .i64 (s 4), .int .i64 (s 5), .int .i64 (s 6), .int .i64 (s 7), .int .i64 (s 8)] 34).bel
  unfold shapeV
  have hw : -9223372036854775808 ≤ s 0 + s 1 ∧ s 0 + s 1 ≤ 9223372036854775807 := by omega
  go_enter Tryz.func101, Tryz.ntmps101
  go_wp2
  go_ret
  exact ⟨rfl, B0⟩
theorem driveCount_any (s : Nat → Int) (h : OkShape s) (w : World) :
    Calls Tryz.prog 102 #[shapeV s] w fun e w' => e = .returned (.int .i64 (s 2 + s 3)) ∧ Below w.heap.size w w' := by
  obtain ⟨h1, h2, _⟩ := h
  unfold Shp at h2
  have B0 := (one_new w #[.int .i64 (s 0), .int .i64 (s 1), .int .i64 (s 2), .int .i64 (s 3), .int .i64 (s 4), .int .i64 (s 5), .int .i64 (s 6), .int .i64 (s 7), .int .i64 (s 8)] 34).bel
  unfold shapeV
  have hw : -9223372036854775808 ≤ s 2 + s 3 ∧ s 2 + s 3 ≤ 9223372036854775807 := by omega
  go_enter Tryz.func102, Tryz.ntmps102
  go_wp2
  go_ret
  exact ⟨rfl, B0⟩
theorem okB {s : Nat → Int} (h : OkShape s) : 1 ≤ s 0 ∧ s 0 ≤ 4 ∧ 0 ≤ s 1 ∧ s 1 ≤ 2 ∧ 1 ≤ s 2 ∧ s 2 ≤ 3 ∧ 0 ≤ s 3 ∧ s 3 ≤ 2 ∧ 1 ≤ s 4 ∧ s 4 ≤ 6 ∧ 1 ≤ s 5 ∧ s 5 ≤ 6 := by
  obtain ⟨h1, h2, h3, h4, _⟩ := h
  unfold Shp3 at h1
  unfold Shp at h2
  omega
theorem isGroup_b {s : Nat → Int} (h : OkShape s) {x : Int} {t : Bool} (ht : t = true ↔ InP x 0 (s 0 + s 1 - 1)) (w : World) :
    Calls Tryz.prog 151 #[shapeV s, .int .i64 x] w fun e w' => e = .returned (.bool t) ∧ Below w.heap.size w w' := by
  have hb := okB h
  have C := groupCount_any s h
  have CB := fun w' => inBounds_b (w := w') (show 0 ≤ s 0 + s 1 - 1 by omega) ht
  have T0 := one_new w #[.int .i64 (s 0), .int .i64 (s 1), .int .i64 (s 2), .int .i64 (s 3), .int .i64 (s 4), .int .i64 (s 5), .int .i64 (s 6), .int .i64 (s 7), .int .i64 (s 8)] 34
  unfold shapeV at C ⊢
  clear ht h
  go_enter Tryz.func151, Tryz.ntmps151
  go_wp2_with fail
  refine (C _).mono ?_
  rintro e w1 ⟨rfl, b1⟩
  have HB : Hid (Below w.heap.size w w1) := (T0.call b1).bel
  clear b1 T0 C
  go_wp2_with fail
  refine (CB _).mono ?_
  rintro e w2 ⟨rfl, hw2⟩
  obtain rfl := hw2.symm
  go_wp2
  go_ret
  exact ⟨rfl, HB.out⟩
theorem isDataGroup_b {s : Nat → Int} (h : OkShape s) {x : Int} {t : Bool} (ht : t = true ↔ InP x 0 (s 0 - 1)) (w : World) :
    Calls Tryz.prog 148 #[shapeV s, .int .i64 x] w fun e w' => e = .returned (.bool t) ∧ Below w.heap.size w w' := by
  have hb := okB h
  have CB := fun w' => inBounds_b (w := w') (show 0 ≤ s 0 - 1 by omega) ht
  have HB : Hid (Below w.heap.size w (w.alloc (.cells #[.int .i64 (s 0), .int .i64 (s 1), .int .i64 (s 2), .int .i64 (s 3), .int .i64 (s 4), .int .i64 (s 5), .int .i64 (s 6), .int .i64 (s 7), .int .i64 (s 8)] 34))) := (one_new w #[.int .i64 (s 0), .int .i64 (s 1), .int .i64 (s 2), .int .i64 (s 3), .int .i64 (s 4), .int .i64 (s 5), .int .i64 (s 6), .int .i64 (s 7), .int .i64 (s 8)] 34).bel
  unfold shapeV
  clear ht h
  go_enter Tryz.func148, Tryz.ntmps148
  go_wp2_with fail
  refine (CB _).mono ?_
  rintro e w2 ⟨rfl, hw2⟩
  obtain rfl := hw2.symm
  go_wp2
  go_ret
  exact ⟨rfl, HB.out⟩
theorem isRow_b {s : Nat → Int} (h : OkShape s) {x : Int} {t : Bool} (ht : t = true ↔ InP x 0 (s 4 - 1)) (w : World) :
    Calls Tryz.prog 149 #[shapeV s, .int .i64 x] w fun e w' => e = .returned (.bool t) ∧ Below w.heap.size w w' := by
  have hb := okB h
  have CB := fun w' => inBounds_b (w := w') (show 0 ≤ s 4 - 1 by omega) ht
  have HB : Hid (Below w.heap.size w (w.alloc (.cells #[.int .i64 (s 0), .int .i64 (s 1), .int .i64 (s 2), .int .i64 (s 3), .int .i64 (s 4), .int .i64 (s 5), .int .i64 (s 6), .int .i64 (s 7), .int .i64 (s 8)] 34))) := (one_new w #[.int .i64 (s 0), .int .i64 (s 1), .int .i64 (s 2), .int .i64 (s 3), .int .i64 (s 4), .int .i64 (s 5), .int .i64 (s 6), .int .i64 (s 7), .int .i64 (s 8)] 34).bel
  unfold shapeV
  clear ht h
  go_enter Tryz.func149, Tryz.ntmps149
  go_wp2_with fail
  refine (CB _).mono ?_
  rintro e w2 ⟨rfl, hw2⟩
  obtain rfl := hw2.symm
  go_wp2
  go_ret
  exact ⟨rfl, HB.out⟩
theorem rowLong_b {s : Nat → Int} (h : OkShape s) {ao : Option Addr} {n cap : Nat} (hn : n ≤ 9223372036854775807) {t : Bool} (ht : ((n : Int) == s 2 * 4) = t) (w : World) :
    Calls Tryz.prog 150 #[shapeV s, .slice ao n cap] w fun e w' => e = .returned (.bool t) ∧ Below w.heap.size w w' := by
  have hb := okB h
  have C := fun w' => rowLength_any s (by omega) (by omega) w'
  have T0 := one_new w #[.int .i64 (s 0), .int .i64 (s 1), .int .i64 (s 2), .int .i64 (s 3), .int .i64 (s 4), .int .i64 (s 5), .int .i64 (s 6), .int .i64 (s 7), .int .i64 (s 8)] 34
  unfold shapeV at C ⊢
  clear h
  go_enter Tryz.func150, Tryz.ntmps150
  go_wp2_with fail
  refine (C _).mono ?_
  rintro e w1 ⟨rfl, b1⟩
  have HB : Hid (Below w.heap.size w w1) := (T0.call b1).bel
  clear b1 T0 C
  go_wp2
  go_ret
  exact ⟨by simp [ht], HB.out⟩
set_option maxHeartbeats 4000000 in
theorem differWithin_any (v : Value) (n : Nat) (g : Nat → Int) (hi : Nat) (bound : Int) (hb1 : 1 ≤ bound) (hb2 : bound ≤ 1000000) (w : World) (r : RdI w hi v n g) (hcp : CapP v n) (hhi : hi ≤ w.heap.size) :
    Calls Tryz.prog 104 #[v, .int .i64 bound] w (BoolP (ApartP n g (bound - 1)) w) := by
  have HR : Hid (RdI w hi v n g) := r
  obtain ⟨ao, cap, rfl, hm, hc⟩ := r
  obtain ⟨_, _, e, hcp⟩ := hcp
  cases e
  unfold maxLen at hm
  go_enter Tryz.func104, Tryz.ntmps104
  go_wp2
  go_loopw [9] (fun i wr => ∃ k : Nat, k ≤ n ∧ i = .int .i64 k ∧ ApartP k g (bound - 1) ∧ Below w.heap.size w wr) (fun i _ => n - (intOf i).toNat)
  case atStart => exact ⟨0, Nat.zero_le _, rfl, fun i hi => by omega, Below.refl _ _⟩
  case round =>
    obtain ⟨k, hk, rfl, hall, hb⟩ := hrel
    have HALL : Hid (ApartP k g (bound - 1)) := hall
    clear hall
    by_cases hlt : k < n
    · obtain ⟨b, off, rfl, hblt, hcell⟩ := hc (by omega)
      have hck : wr.cell? ⟨b, off + k, none⟩ = some (.int .i64 (g k)) := (hb.cell (p := ⟨b, off + k, none⟩) (by show b < w.heap.size; omega)).trans (hcell k hlt)
      have kcp : k ≤ cap := by omega
      obtain ⟨t1, h1⟩ := exB (InP (g k) 0 (bound - 1))
      obtain ⟨t2, h2⟩ := exB (∃ t, t < k ∧ g t = g k)
      have C1 := fun w' => inBounds_b (w := w') (show 0 ≤ bound - 1 by omega) h1
      have C2 := det_b (contains_any (.slice (some ⟨b, off, none⟩) k cap) k g hi (g k) wr ((HR.out.part hk (by omega)).below hb hhi)) h2
      have H1 : Hid (t1 = true ↔ InP (g k) 0 (bound - 1)) := h1
      have H2 : Hid (t2 = true ↔ ∃ t, t < k ∧ g t = g k) := h2
      obtain ⟨y, hy⟩ : ∃ y, y = g k := ⟨_, rfl⟩
      have HY : Hid (y = g k) := hy
      rw [← hy] at hck C1 C2
      have HB : Hid (Below w.heap.size w wr) := hb
      clear hc hcell h1 h2 hy hb
      go_wp2_with fail
      refine (C1 _).mono ?_
      rintro e w' ⟨rfl, hw'⟩
      obtain rfl := hw'.symm
      clear C1
      cases t1 with
      | false =>
        go_wp2
        go_ret
        exact boolNo rfl (fun h => by
          have := H1.out.2 (h k hlt).1
          simp at this) HB.out
      | true =>
        go_wp2_with fail
        refine C2.mono ?_
        rintro e w2 ⟨rfl, b2⟩
        have HB2 : Hid (Below w.heap.size w w2) := HB.out.trans (b2.mono HB.out.size)
        clear b2 C2
        cases t2 with
        | true =>
          go_wp2
          go_ret
          exact boolNo rfl (fun h => by
            obtain ⟨t, ht, e⟩ := H2.out.1 (by simp)
            exact (h k hlt).2 t ht e) HB2.out
        | false =>
          go_wp2
          go_roundw
          case rel => exact ⟨k + 1, by omega, by go_num, fun i hi => by
                        by_cases c : i = k
                        · subst c
                          exact ⟨H1.out.1 (by simp), fun t ht e => by
                            have := H2.out.2 ⟨t, ht, e⟩
                            simp at this⟩
                        · exact HALL.out i (by omega), HB2.out⟩
          case measure => simp [intOf]; omega
    · obtain rfl : k = n := by omega
      go_wp2
      go_ret
      exact boolYes rfl HALL.out hb
end Go.Proofs.YtcdnhhdknkhnkaaGreat
namespace Go.Proofs.YtcdnhhdknkhnkaaGreat
open Go.RowKit F256
set_option maxHeartbeats 2000000 in
theorem blockFits_any (b : BlockD) (ao : Option Addr) (cap : Nat) (w : World) :
    Calls Tryz.prog 128 #[.agg #[.int .i64 b.stamp, .slice ao b.bytes.1 cap]] w (BoolP (BlockP b) w) := by
  obtain ⟨t1, h1⟩ := exB (InP b.stamp 0 1000000000)
  obtain ⟨b2, h2⟩ : ∃ x, ((b.bytes.1 : Int) == 4) = x := ⟨_, rfl⟩
  have HE : Hid (BlockP b ↔ (t1 = true ∧ b2 = true)) := by
    show BlockP b ↔ _
    rw [h1, ← h2]
    unfold BlockP
    simp
    intro _
    omega
  have C1 := fun w' => inBounds_b (w := w') (show (0 : Int) ≤ 1000000000 by omega) h1
  have HB : Hid (Below w.heap.size w (w.alloc (.cells #[.int .i64 b.stamp, .slice ao b.bytes.1 cap] 122))) := (Below.refl _ _).alloc (Nat.le_refl _) _
  clear h1
  go_enter Tryz.func128, Tryz.ntmps128
  go_wp2_with fail
  refine (C1 _).mono ?_
  rintro e w' ⟨rfl, hw'⟩
  obtain rfl := hw'.symm
  clear C1
  cases t1 with
  | false =>
    go_wp2
    go_ret
    exact boolNo rfl (fun h => by have := HE.out.1 h; simp at this) HB.out
  | true =>
    cases b2 with
    | false =>
      go_wp2
      go_ret
      exact boolNo rfl (fun h => by have := HE.out.1 h; simp at this) HB.out
    | true =>
      go_wp2
      go_ret
      exact boolYes rfl (HE.out.2 (by simp)) HB.out
set_option maxHeartbeats 4000000 in
theorem blocksFit_any (s : Nat → Int) (hs : OkShape s) (p : Nat × (Nat → BlockD)) (t : TypeId) (v : Value) (hi : Nat) (w : World) (h : (layBlock.slice t).rd w hi p [v]) (hhi : hi ≤ w.heap.size) :
    Calls Tryz.prog 103 #[shapeV s, v] w (BoolP (BlocksP s p) w) := by
  obtain ⟨ao, cap, e, hm, hc⟩ := h
  cases e
  unfold maxLen at hm
  have HC : Hid (p.1 ≠ 0 → ∃ b off, ao = some ⟨b, off, none⟩ ∧ b < hi ∧ ∀ i, i < p.1 → ∃ ce, layBlock.rd w hi (p.2 i) ce ∧ ∀ j, j < layBlock.sz → w.cell? ⟨b, off + (i * layBlock.sz + j), none⟩ = ce[j]?) := hc
  have HT0 : Hid (One w (w.alloc (.cells #[.int .i64 (s 0), .int .i64 (s 1), .int .i64 (s 2), .int .i64 (s 3), .int .i64 (s 4), .int .i64 (s 5), .int .i64 (s 6), .int .i64 (s 7), .int .i64 (s 8)] 34)) #[.int .i64 (s 0), .int .i64 (s 1), .int .i64 (s 2), .int .i64 (s 3), .int .i64 (s 4), .int .i64 (s 5), .int .i64 (s 6), .int .i64 (s 7), .int .i64 (s 8)] 34) := one_new w #[.int .i64 (s 0), .int .i64 (s 1), .int .i64 (s 2), .int .i64 (s 3), .int .i64 (s 4), .int .i64 (s 5), .int .i64 (s 6), .int .i64 (s 7), .int .i64 (s 8)] 34
  clear hc
  unfold shapeV
  go_enter Tryz.func103, Tryz.ntmps103
  by_cases hl : (p.1 : Int) = s 4
  · have hne : ((p.1 : Int) != s 4) = false := by simpa using hl
    have HL : Hid ((p.1 : Int) = s 4) := hl
    clear hl
    go_wp2
    go_loopw [14] (fun i wr => ∃ k : Nat, k ≤ p.1 ∧ i = .int .i64 k ∧ (∀ i, i < k → BlockP (p.2 i)) ∧ Below w.heap.size w wr) (fun i _ => p.1 - (intOf i).toNat)
    case atStart => exact ⟨0, Nat.zero_le _, rfl, fun i hi => by omega, HT0.out.bel⟩
    case round =>
      obtain ⟨k, hk, rfl, hal, hb⟩ := hrel
      have HAL : Hid (∀ i, i < k → BlockP (p.2 i)) := hal
      have HB : Hid (Below w.heap.size w wr) := hb
      clear hal
      by_cases hlt : k < p.1
      · obtain ⟨b, off, he, hbl, hel⟩ := HC.out (by omega)
        subst he
        obtain ⟨ck, hrk, hcell⟩ := elem_rd (t := 0) hel hb hhi hbl hlt
        obtain ⟨ao1, cap1, rfl, -⟩ := Block_rd hrk
        have c0 : wr.cell? ⟨b, off + k * 2, none⟩ = some (.int .i64 (p.2 k).stamp) := hcell 0 (by decide)
        have c1 : wr.cell? ⟨b, off + k * 2 + 1, none⟩ = some (.slice ao1 (p.2 k).bytes.1 cap1) := hcell 1 (by decide)
        have C := fun w' => blockFits_any (p.2 k) ao1 cap1 w'
        clear hel hcell hrk hb
        go_wp2_with fail
        refine (C _).mono ?_
        rintro e w2 ⟨t2, rfl, ht2, b2⟩
        have HB2 : Hid (Below w.heap.size w w2) := HB.out.trans ((bnew b2).mono HB.out.size)
        have HT2 : Hid (t2 = true ↔ BlockP (p.2 k)) := ht2
        clear C b2 ht2
        cases t2 with
        | false =>
          go_wp2
          go_ret
          exact boolNo rfl (fun h => by have := HT2.out.2 (h.2 k hlt); simp at this) HB2.out
        | true =>
          go_wp2
          go_roundw
          case rel => exact ⟨k + 1, by omega, by go_num, fun i hi => by
                        by_cases c : i = k
                        · subst c; exact HT2.out.1 (by simp)
                        · exact HAL.out i (by omega), HB2.out⟩
          case measure => simp [intOf]; omega
      · obtain rfl : k = p.1 := by omega
        go_wp2
        go_ret
        exact boolYes rfl ⟨HL.out, HAL.out⟩ hb
  · have hne : ((p.1 : Int) != s 4) = true := by simpa using hl
    have HN : Hid (¬ (p.1 : Int) = s 4) := hl
    clear hl
    go_wp2
    go_ret
    exact boolNo rfl (fun h => HN.out h.1) HT0.out.bel
theorem overfull_any (wp : Bool) (n : Nat) (hn : n ≤ 9223372036854775807) (ao : Option Addr) (cap : Nat) (w : World) :
    Calls Tryz.prog 65 #[.agg #[.bool wp, .slice ao n cap]] w (BoolP (200 < n) w) := by
  obtain ⟨P, hP⟩ : ∃ P : Prop, P = (200 < n) := ⟨_, rfl⟩
  have HB : Hid (Below w.heap.size w (w.alloc (.cells #[.bool wp, .slice ao n cap] 88))) := (Below.refl _ _).alloc (Nat.le_refl _) _
  have HP : Hid (P = (200 < n)) := hP
  rw [← hP]
  clear hP
  by_cases h : 200 < n
  · have h1 : decide (200 < (n : Int)) = true := by simp; omega
    go_enter Tryz.func65, Tryz.ntmps65
    go_wp2
    go_ret
    exact boolYes (by simp [h1]) (by rw [HP.out]; exact h) HB.out
  · have h1 : decide (200 < (n : Int)) = false := by simp; omega
    go_enter Tryz.func65, Tryz.ntmps65
    go_wp2
    go_ret
    exact boolNo (by simp [h1]) (by rw [HP.out]; exact h) HB.out
theorem wipedRecs_any (wp : Bool) (n : Nat) (hn : n ≤ 9223372036854775807) (ao : Option Addr) (cap : Nat) (w : World) :
    Calls Tryz.prog 67 #[.agg #[.bool wp, .slice ao n cap]] w (BoolP (wp = true ∧ 0 < n) w) := by
  obtain ⟨P, hP⟩ : ∃ P : Prop, P = (wp = true ∧ 0 < n) := ⟨_, rfl⟩
  have HB : Hid (Below w.heap.size w (w.alloc (.cells #[.bool wp, .slice ao n cap] 88))) := (Below.refl _ _).alloc (Nat.le_refl _) _
  have HP : Hid (P = (wp = true ∧ 0 < n)) := hP
  rw [← hP]
  clear hP
  cases wp with
  | false =>
    go_enter Tryz.func67, Tryz.ntmps67
    go_wp2
    go_ret
    exact boolNo rfl (by rw [HP.out]; simp) HB.out
  | true =>
    by_cases h : 0 < n
    · have h1 : decide (0 < (n : Int)) = true := by simp; omega
      go_enter Tryz.func67, Tryz.ntmps67
      go_wp2
      go_ret
      exact boolYes (by simp [h]) (by rw [HP.out]; exact ⟨by simp, h⟩) HB.out
    · have h1 : decide (0 < (n : Int)) = false := by simp; omega
      go_enter Tryz.func67, Tryz.ntmps67
      go_wp2
      go_ret
      exact boolNo (by simp [h]) (by rw [HP.out]; exact fun x => h x.2) HB.out
end Go.Proofs.YtcdnhhdknkhnkaaGreat