/- Walks of the program's onFits and recsFault. -/
import Derived.Test.YtbmfndjglndnlaaGreatZwG
import Derived.Test.YtbmfndjglndnlaaGreatZwE
import Derived.Test.YtbmfndjglndnlaaGreatZwH
import Derived.Test.YtbmfndjglndnlaaGreatZwF
namespace Go.Proofs.YtbmfndjglndnlaaGreat
open Go.RowKit F256
set_option linter.unusedVariables false
set_option linter.unusedSimpArgs false
set_option maxHeartbeats 8000000 in
theorem onFits_any (d : WorldD) (hs : OkShape d.shape) (cs : List Value) (hi : Nat) (w : World) (h : layWorld.rd w hi d cs) (hhi : hi ≤ w.heap.size) :
    Calls Tryz.prog 105 #[.agg cs.toArray] w (BoolP (OnP d) w) := by
  obtain ⟨ao1, cap1, ao2, cap2, ao3, cap3, rfl, g1, g2, g3, -⟩ := World_rd h
  obtain ⟨v2, e2, ⟨h2, hcp2⟩, _⟩ := g2
  cases e2
  have H2 : Hid (RdI w hi (.slice ao2 d.on.1 cap2) d.on.1 d.on.2) := h2
  have HCP : Hid (CapP (.slice ao2 d.on.1 cap2) d.on.1) := hcp2
  have hm2 := h2.mx
  unfold maxLen at hm2
  have hb := okB hs
  have HS : Hid (OkShape d.shape) := hs
  clear h h2 hcp2 g1 g3 hs
  have T0 := one_new w #[.int .i64 (d.shape 0), .int .i64 (d.shape 1), .int .i64 (d.shape 2), .int .i64 (d.shape 3), .int .i64 (d.shape 4), .int .i64 (d.shape 5), .int .i64 (d.shape 6), .int .i64 (d.shape 7), .int .i64 (d.shape 8), .slice ao1 d.groups.1 cap1, .slice ao2 d.on.1 cap2, .slice ao3 d.tapes.1 cap3, .int .i64 d.writes, .int .i64 d.stop, .bool d.down] 34
  go_enter Tryz.func105, Tryz.ntmps105
  cases hd : d.down with
  | true =>
    obtain ⟨b0, h0⟩ : ∃ b, ((d.on.1 : Int) == 0) = b := ⟨_, rfl⟩
    have HE : Hid (OnP d ↔ b0 = true) := by
      show OnP d ↔ _
      rw [← h0]
      unfold OnP
      simp [hd]
      constructor
      · exact fun h => h.2.2
      · intro h
        refine ⟨fun i hi => by omega, by omega, h⟩
    have HB : Hid (Below w.heap.size w (w.alloc (.cells #[.int .i64 (d.shape 0), .int .i64 (d.shape 1), .int .i64 (d.shape 2), .int .i64 (d.shape 3), .int .i64 (d.shape 4), .int .i64 (d.shape 5), .int .i64 (d.shape 6), .int .i64 (d.shape 7), .int .i64 (d.shape 8), .slice ao1 d.groups.1 cap1, .slice ao2 d.on.1 cap2, .slice ao3 d.tapes.1 cap3, .int .i64 d.writes, .int .i64 d.stop, .bool true] 34))) := by
      have := T0.bel
      rw [hd] at this
      exact this
    clear T0
    cases b0 with
    | true =>
      go_wp2
      go_ret
      exact boolYes (by simp [h0]) (HE.out.2 (by simp)) HB.out
    | false =>
      go_wp2
      go_ret
      exact boolNo (by simp [h0]) (fun h => by have := HE.out.1 h; simp at this) HB.out
  | false =>
    have T1 := T0
    rw [hd] at T1
    clear T0
    go_upto_region 3 with fail
    obtain ⟨W, hW⟩ : ∃ W, W = w.alloc (.cells #[.int .i64 (d.shape 0), .int .i64 (d.shape 1), .int .i64 (d.shape 2), .int .i64 (d.shape 3), .int .i64 (d.shape 4), .int .i64 (d.shape 5), .int .i64 (d.shape 6), .int .i64 (d.shape 7), .int .i64 (d.shape 8), .slice ao1 d.groups.1 cap1, .slice ao2 d.on.1 cap2, .slice ao3 d.tapes.1 cap3, .int .i64 d.writes, .int .i64 d.stop, .bool false] 34) := ⟨_, rfl⟩
    rw [← hW] at T1 ⊢
    have HT : Hid (One w W #[.int .i64 (d.shape 0), .int .i64 (d.shape 1), .int .i64 (d.shape 2), .int .i64 (d.shape 3), .int .i64 (d.shape 4), .int .i64 (d.shape 5), .int .i64 (d.shape 6), .int .i64 (d.shape 7), .int .i64 (d.shape 8), .slice ao1 d.groups.1 cap1, .slice ao2 d.on.1 cap2, .slice ao3 d.tapes.1 cap3, .int .i64 d.writes, .int .i64 d.stop, .bool false] 34) := T1
    have x1_0 : W.cell? ⟨w.heap.size, 0, none⟩ = some (.int .i64 (d.shape 0)) := T1.b1.cell 0
    have kx1_0 := cell_regrown x1_0
    have x1_1 : W.cell? ⟨w.heap.size, 1, none⟩ = some (.int .i64 (d.shape 1)) := T1.b1.cell 1
    have kx1_1 := cell_regrown x1_1
    have x1_2 : W.cell? ⟨w.heap.size, 2, none⟩ = some (.int .i64 (d.shape 2)) := T1.b1.cell 2
    have kx1_2 := cell_regrown x1_2
    have x1_3 : W.cell? ⟨w.heap.size, 3, none⟩ = some (.int .i64 (d.shape 3)) := T1.b1.cell 3
    have kx1_3 := cell_regrown x1_3
    have x1_4 : W.cell? ⟨w.heap.size, 4, none⟩ = some (.int .i64 (d.shape 4)) := T1.b1.cell 4
    have kx1_4 := cell_regrown x1_4
    have x1_5 : W.cell? ⟨w.heap.size, 5, none⟩ = some (.int .i64 (d.shape 5)) := T1.b1.cell 5
    have kx1_5 := cell_regrown x1_5
    have x1_6 : W.cell? ⟨w.heap.size, 6, none⟩ = some (.int .i64 (d.shape 6)) := T1.b1.cell 6
    have kx1_6 := cell_regrown x1_6
    have x1_7 : W.cell? ⟨w.heap.size, 7, none⟩ = some (.int .i64 (d.shape 7)) := T1.b1.cell 7
    have kx1_7 := cell_regrown x1_7
    have x1_8 : W.cell? ⟨w.heap.size, 8, none⟩ = some (.int .i64 (d.shape 8)) := T1.b1.cell 8
    have kx1_8 := cell_regrown x1_8
    have x1_10 : W.cell? ⟨w.heap.size, 10, none⟩ = some (.slice ao2 d.on.1 cap2) := T1.b1.cell 10
    have kx1_10 := cell_regrown x1_10
    obtain ⟨b0, h0⟩ : ∃ b, decide ((d.on.1 : Int) ≤ d.shape 5) = b := ⟨_, rfl⟩
    obtain ⟨t2, h2⟩ := exB (ApartP d.on.1 d.on.2 (d.shape 0 + d.shape 1 - 1))
    have cG := q_below (W := W) (fun w' _ => groupCount_any d.shape HS.out w')
    have cD := q_below (W := W) (fun w' hw' => det_b (differWithin_any _ d.on.1 d.on.2 hi (d.shape 0 + d.shape 1) (by omega) (by omega) w' ((H2.out.below T1.bel hhi).below hw' (Nat.le_trans hhi T1.bel.size)) HCP.out (Nat.le_trans hhi (Nat.le_trans T1.bel.size hw'.size))) h2)
    unfold shapeV at cG
    have HE : Hid (OnP d ↔ (b0 = true ∧ t2 = true)) := by
      show OnP d ↔ _
      rw [← h0, h2]
      unfold OnP
      simp [hd]
      exact ⟨fun h => ⟨h.2, h.1⟩, fun h => ⟨h.2, h.1⟩⟩
    have hst : b0 = false ∨ (b0 = true ∧ t2 = false) ∨ (b0 = true ∧ t2 = true) := by
      clear HE h0 h2 cD
      cases b0 <;> simp
    clear h2 hW T1
    rcases hst with rfl | ⟨rfl, rfl⟩ | ⟨rfl, rfl⟩
    all_goals
      refine WQ.region (by kernel_rfl) (by kernel_rfl) ?_
      repeat (first | (apply WQ.skip; (case hw => rfl); intro K hK; go_simp; apply hK; clear hK K) | (apply WQ.want; (case hw => rfl); intro K hK; go_simp; first | (apply hK; clear hK K) | (apply Exists.intro; apply And.intro; (case left => intro p; (first | (go_at_call 78; exact cG _ _) | (go_at_call 135; exact cD _ _))); apply hK; clear hK K)))
      refine WQ.nil ?_
      intro w2 hw2
      have HB2 : Hid (Below w.heap.size w w2) := (HT.out.call (below_rg hw2)).bel
      clear hw2
      go_wp2
      go_ret
      first
        | exact boolNo rfl (fun h => by have := HE.out.1 h; simp at this) HB2.out
        | exact boolYes rfl (HE.out.2 (by simp)) HB2.out
end Go.Proofs.YtbmfndjglndnlaaGreat

namespace Go.Proofs.YtbmfndjglndnlaaGreat
open Go.RowKit F256
set_option linter.unusedVariables false
set_option linter.unusedSimpArgs false
set_option maxHeartbeats 8000000 in
set_option maxRecDepth 20000 in
theorem recsFault_any (d : WorldD) (cs : List Value) (hi : Nat) (w : World) (h : layWorld.rd w hi d cs) (hhi : hi ≤ w.heap.size) (hnm : ∀ t, t < d.tapes.1 → ∀ i, i < (d.tapes.2 t).recs.1 → ((d.tapes.2 t).recs.2 i).name.size ≤ 1048576) :
    Calls Tryz.prog 108 #[.agg cs.toArray] w (RcsPost d.shape d.tapes w) := by
  obtain ⟨ao1, cap1, ao2, cap2, ao3, cap3, rfl, g1, g2, g3, -⟩ := World_rd h
  obtain ⟨_, _, e3, hm3, hc3⟩ := g3
  cases e3
  unfold maxLen at hm3
  have HC3 : Hid (d.tapes.1 ≠ 0 → ∃ b off, ao3 = some ⟨b, off, none⟩ ∧ b < hi ∧ ∀ i, i < d.tapes.1 → ∃ ce, layTape.rd w hi (d.tapes.2 i) ce ∧ ∀ j, j < layTape.sz → w.cell? ⟨b, off + (i * layTape.sz + j), none⟩ = ce[j]?) := hc3
  have HNM : Hid (∀ t, t < d.tapes.1 → ∀ i, i < (d.tapes.2 t).recs.1 → ((d.tapes.2 t).recs.2 i).name.size ≤ 1048576) := hnm
  have HT0 : Hid (One w (w.alloc (.cells #[.int .i64 (d.shape 0), .int .i64 (d.shape 1), .int .i64 (d.shape 2), .int .i64 (d.shape 3), .int .i64 (d.shape 4), .int .i64 (d.shape 5), .int .i64 (d.shape 6), .int .i64 (d.shape 7), .int .i64 (d.shape 8), .slice ao1 d.groups.1 cap1, .slice ao2 d.on.1 cap2, .slice ao3 d.tapes.1 cap3, .int .i64 d.writes, .int .i64 d.stop, .bool d.down] 34)) #[.int .i64 (d.shape 0), .int .i64 (d.shape 1), .int .i64 (d.shape 2), .int .i64 (d.shape 3), .int .i64 (d.shape 4), .int .i64 (d.shape 5), .int .i64 (d.shape 6), .int .i64 (d.shape 7), .int .i64 (d.shape 8), .slice ao1 d.groups.1 cap1, .slice ao2 d.on.1 cap2, .slice ao3 d.tapes.1 cap3, .int .i64 d.writes, .int .i64 d.stop, .bool d.down] 34) := one_new w #[.int .i64 (d.shape 0), .int .i64 (d.shape 1), .int .i64 (d.shape 2), .int .i64 (d.shape 3), .int .i64 (d.shape 4), .int .i64 (d.shape 5), .int .i64 (d.shape 6), .int .i64 (d.shape 7), .int .i64 (d.shape 8), .slice ao1 d.groups.1 cap1, .slice ao2 d.on.1 cap2, .slice ao3 d.tapes.1 cap3, .int .i64 d.writes, .int .i64 d.stop, .bool d.down] 34
  clear h g1 g2 hc3 hnm
  go_enter Tryz.func108, Tryz.ntmps108
  go_wp2
  go_loopw [11] (fun v wr => ∃ t : Nat, t ≤ d.tapes.1 ∧ v = .int .i64 t ∧ (∀ u, u < t → ∀ k, k < (d.tapes.2 u).recs.1 → RecAns d.shape ((d.tapes.2 u).recs.2 k) 0) ∧ One w wr #[.int .i64 (d.shape 0), .int .i64 (d.shape 1), .int .i64 (d.shape 2), .int .i64 (d.shape 3), .int .i64 (d.shape 4), .int .i64 (d.shape 5), .int .i64 (d.shape 6), .int .i64 (d.shape 7), .int .i64 (d.shape 8), .slice ao1 d.groups.1 cap1, .slice ao2 d.on.1 cap2, .slice ao3 d.tapes.1 cap3, .int .i64 d.writes, .int .i64 d.stop, .bool d.down] 34) (fun v _ => d.tapes.1 - (intOf v).toNat)
  case atStart => exact ⟨0, Nat.zero_le _, rfl, fun i hi => by omega, HT0.out⟩
  case round =>
    clear HT0
    obtain ⟨t, ht, rfl, hal, T1⟩ := hrel
    obtain ⟨wo, rfl⟩ : ∃ x, x = wr := ⟨_, rfl⟩
    have HAL : Hid (∀ u, u < t → ∀ k, k < (d.tapes.2 u).recs.1 → RecAns d.shape ((d.tapes.2 u).recs.2 k) 0) := hal
    have HT1 : Hid (One w wo #[.int .i64 (d.shape 0), .int .i64 (d.shape 1), .int .i64 (d.shape 2), .int .i64 (d.shape 3), .int .i64 (d.shape 4), .int .i64 (d.shape 5), .int .i64 (d.shape 6), .int .i64 (d.shape 7), .int .i64 (d.shape 8), .slice ao1 d.groups.1 cap1, .slice ao2 d.on.1 cap2, .slice ao3 d.tapes.1 cap3, .int .i64 d.writes, .int .i64 d.stop, .bool d.down] 34) := T1
    clear hal
    by_cases hlt : t < d.tapes.1
    · obtain ⟨b3, off3, he3, hb3, hel3⟩ := HC3.out (by omega)
      subst he3
      obtain ⟨ct, hrt, hct⟩ := elem_rd (t := 0) hel3 T1.bel hhi hb3 hlt
      obtain ⟨ap, cp, rfl, gt⟩ := Tape_rd hrt
      have c0 : wo.cell? ⟨b3, off3 + t * 2, none⟩ = some (.bool (d.tapes.2 t).wiped) := hct 0 (by decide)
      have c1 : wo.cell? ⟨b3, off3 + t * 2 + 1, none⟩ = some (.slice ap (d.tapes.2 t).recs.1 cp) := hct 1 (by decide)
      obtain ⟨_, _, et, hmt, hct'⟩ := gt
      cases et
      unfold maxLen at hmt
      have HCT : Hid ((d.tapes.2 t).recs.1 ≠ 0 → ∃ b off, ap = some ⟨b, off, none⟩ ∧ b < hi ∧ ∀ i, i < (d.tapes.2 t).recs.1 → ∃ ce, layRec.rd wo hi ((d.tapes.2 t).recs.2 i) ce ∧ ∀ j, j < layRec.sz → wo.cell? ⟨b, off + (i * layRec.sz + j), none⟩ = ce[j]?) := hct'
      have zo : w.heap.size < wo.heap.size := T1.b1.lt
      clear hel3 hct hrt hct' T1
      go_upto_region 4 with fail
      have bA : Below wo.heap.size wo (wo.alloc (.cells #[.bool (d.tapes.2 t).wiped, .slice ap (d.tapes.2 t).recs.1 cp] 94)) := (Below.refl _ _).alloc (Nat.le_refl _) _
      have X2 : Box (wo.alloc (.cells #[.bool (d.tapes.2 t).wiped, .slice ap (d.tapes.2 t).recs.1 cp] 94)) wo.heap.size #[.bool (d.tapes.2 t).wiped, .slice ap (d.tapes.2 t).recs.1 cp] 94 := box_new _ _ _
      obtain ⟨W2, hW2⟩ : ∃ x, x = wo.alloc (.cells #[.bool (d.tapes.2 t).wiped, .slice ap (d.tapes.2 t).recs.1 cp] 94) := ⟨_, rfl⟩
      rw [← hW2] at bA X2 ⊢
      have y2_1 : W2.cell? ⟨wo.heap.size, 1, none⟩ = some (.slice ap (d.tapes.2 t).recs.1 cp) := X2.cell 1
      have HB2 : Hid (Below wo.heap.size wo W2) := bA
      clear c0 c1 X2 bA hW2
      go_wp2
      go_loopw [18] (fun v wx => ∃ i : Nat, i ≤ (d.tapes.2 t).recs.1 ∧ v = .int .i64 i ∧ (∀ k, k < i → RecAns d.shape ((d.tapes.2 t).recs.2 k) 0) ∧ Below wo.heap.size wo wx) (fun v _ => (d.tapes.2 t).recs.1 - (intOf v).toNat)
      case atStart => exact ⟨0, Nat.zero_le _, rfl, fun i hi => by omega, HB2.out⟩
      case round =>
        clear HB2 y2_1
        obtain ⟨i, hi', rfl, hal2, hb4⟩ := hrel
        obtain ⟨wx, rfl⟩ : ∃ x, x = wr := ⟨_, rfl⟩
        have HAL2 : Hid (∀ k, k < i → RecAns d.shape ((d.tapes.2 t).recs.2 k) 0) := hal2
        have HB4 : Hid (Below wo.heap.size wo wx) := hb4
        clear hal2
        by_cases hli : i < (d.tapes.2 t).recs.1
        · obtain ⟨b6, off6, he6, hb6, hel6⟩ := HCT.out (by omega)
          subst he6
          obtain ⟨cr, hrr, hcr⟩ := elem_rd (t := 0) hel6 hb4 (by omega) hb6 hli
          obtain ⟨ro6, rc6, ro7, rc7, ro8, rc8, rfl, -⟩ := Rec_rd hrr
          have r0 : wx.cell? ⟨b6, off6 + i * 9, none⟩ = some (.int .i64 ((d.tapes.2 t).recs.2 i).kind) := hcr 0 (by decide)
          have r1 : wx.cell? ⟨b6, off6 + i * 9 + 1, none⟩ = some (.int .i64 ((d.tapes.2 t).recs.2 i).seq) := hcr 1 (by decide)
          have r2 : wx.cell? ⟨b6, off6 + i * 9 + 2, none⟩ = some (.string ((d.tapes.2 t).recs.2 i).name) := hcr 2 (by decide)
          have r3 : wx.cell? ⟨b6, off6 + i * 9 + 3, none⟩ = some (.int .i64 ((d.tapes.2 t).recs.2 i).length) := hcr 3 (by decide)
          have r4 : wx.cell? ⟨b6, off6 + i * 9 + 4, none⟩ = some (.int .i64 ((d.tapes.2 t).recs.2 i).group) := hcr 4 (by decide)
          have r5 : wx.cell? ⟨b6, off6 + i * 9 + 5, none⟩ = some (.int .i64 ((d.tapes.2 t).recs.2 i).row) := hcr 5 (by decide)
          have r6 : wx.cell? ⟨b6, off6 + i * 9 + 6, none⟩ = some (.slice ro6 ((d.tapes.2 t).recs.2 i).rows.1 rc6) := hcr 6 (by decide)
          have r7 : wx.cell? ⟨b6, off6 + i * 9 + 7, none⟩ = some (.slice ro7 ((d.tapes.2 t).recs.2 i).data.1 rc7) := hcr 7 (by decide)
          have r8 : wx.cell? ⟨b6, off6 + i * 9 + 8, none⟩ = some (.slice ro8 ((d.tapes.2 t).recs.2 i).delta.1 rc8) := hcr 8 (by decide)
          have HRR : Hid (layRec.rd wx hi ((d.tapes.2 t).recs.2 i) [.int .i64 ((d.tapes.2 t).recs.2 i).kind, .int .i64 ((d.tapes.2 t).recs.2 i).seq, .string ((d.tapes.2 t).recs.2 i).name, .int .i64 ((d.tapes.2 t).recs.2 i).length, .int .i64 ((d.tapes.2 t).recs.2 i).group, .int .i64 ((d.tapes.2 t).recs.2 i).row, .slice ro6 ((d.tapes.2 t).recs.2 i).rows.1 rc6, .slice ro7 ((d.tapes.2 t).recs.2 i).data.1 rc7, .slice ro8 ((d.tapes.2 t).recs.2 i).delta.1 rc8]) := hrr
          have T4 : One w wx #[.int .i64 (d.shape 0), .int .i64 (d.shape 1), .int .i64 (d.shape 2), .int .i64 (d.shape 3), .int .i64 (d.shape 4), .int .i64 (d.shape 5), .int .i64 (d.shape 6), .int .i64 (d.shape 7), .int .i64 (d.shape 8), .slice ao1 d.groups.1 cap1, .slice ao2 d.on.1 cap2, .slice (some ⟨b3, off3, none⟩) d.tapes.1 cap3, .int .i64 d.writes, .int .i64 d.stop, .bool d.down] 34 := HT1.out.call hb4
          have HT4 : Hid (One w wx #[.int .i64 (d.shape 0), .int .i64 (d.shape 1), .int .i64 (d.shape 2), .int .i64 (d.shape 3), .int .i64 (d.shape 4), .int .i64 (d.shape 5), .int .i64 (d.shape 6), .int .i64 (d.shape 7), .int .i64 (d.shape 8), .slice ao1 d.groups.1 cap1, .slice ao2 d.on.1 cap2, .slice (some ⟨b3, off3, none⟩) d.tapes.1 cap3, .int .i64 d.writes, .int .i64 d.stop, .bool d.down] 34) := T4
          have zx : wo.heap.size ≤ wx.heap.size := hb4.size
          obtain ⟨X, hX⟩ : ∃ X, RecAns d.shape ((d.tapes.2 t).recs.2 i) X := stair_ex (K := isZ) ⟨0, rfl⟩ _
          have HX : Hid (RecAns d.shape ((d.tapes.2 t).recs.2 i) X) := hX
          clear hel6 hcr hrr T4 hb4 hX
          go_upto_region 7 with fail
          have bA : Below wx.heap.size wx (wx.alloc (.cells #[.int .i64 ((d.tapes.2 t).recs.2 i).kind, .int .i64 ((d.tapes.2 t).recs.2 i).seq, .string ((d.tapes.2 t).recs.2 i).name, .int .i64 ((d.tapes.2 t).recs.2 i).length, .int .i64 ((d.tapes.2 t).recs.2 i).group, .int .i64 ((d.tapes.2 t).recs.2 i).row, .slice ro6 ((d.tapes.2 t).recs.2 i).rows.1 rc6, .slice ro7 ((d.tapes.2 t).recs.2 i).data.1 rc7, .slice ro8 ((d.tapes.2 t).recs.2 i).delta.1 rc8] 119)) := (Below.refl _ _).alloc (Nat.le_refl _) _
          have X5 : Box (wx.alloc (.cells #[.int .i64 ((d.tapes.2 t).recs.2 i).kind, .int .i64 ((d.tapes.2 t).recs.2 i).seq, .string ((d.tapes.2 t).recs.2 i).name, .int .i64 ((d.tapes.2 t).recs.2 i).length, .int .i64 ((d.tapes.2 t).recs.2 i).group, .int .i64 ((d.tapes.2 t).recs.2 i).row, .slice ro6 ((d.tapes.2 t).recs.2 i).rows.1 rc6, .slice ro7 ((d.tapes.2 t).recs.2 i).data.1 rc7, .slice ro8 ((d.tapes.2 t).recs.2 i).delta.1 rc8] 119)) wx.heap.size #[.int .i64 ((d.tapes.2 t).recs.2 i).kind, .int .i64 ((d.tapes.2 t).recs.2 i).seq, .string ((d.tapes.2 t).recs.2 i).name, .int .i64 ((d.tapes.2 t).recs.2 i).length, .int .i64 ((d.tapes.2 t).recs.2 i).group, .int .i64 ((d.tapes.2 t).recs.2 i).row, .slice ro6 ((d.tapes.2 t).recs.2 i).rows.1 rc6, .slice ro7 ((d.tapes.2 t).recs.2 i).data.1 rc7, .slice ro8 ((d.tapes.2 t).recs.2 i).delta.1 rc8] 119 := box_new _ _ _
          obtain ⟨W5, hW5⟩ : ∃ x, x = wx.alloc (.cells #[.int .i64 ((d.tapes.2 t).recs.2 i).kind, .int .i64 ((d.tapes.2 t).recs.2 i).seq, .string ((d.tapes.2 t).recs.2 i).name, .int .i64 ((d.tapes.2 t).recs.2 i).length, .int .i64 ((d.tapes.2 t).recs.2 i).group, .int .i64 ((d.tapes.2 t).recs.2 i).row, .slice ro6 ((d.tapes.2 t).recs.2 i).rows.1 rc6, .slice ro7 ((d.tapes.2 t).recs.2 i).data.1 rc7, .slice ro8 ((d.tapes.2 t).recs.2 i).delta.1 rc8] 119) := ⟨_, rfl⟩
          rw [← hW5] at bA X5 ⊢
          have T5 : One w W5 #[.int .i64 (d.shape 0), .int .i64 (d.shape 1), .int .i64 (d.shape 2), .int .i64 (d.shape 3), .int .i64 (d.shape 4), .int .i64 (d.shape 5), .int .i64 (d.shape 6), .int .i64 (d.shape 7), .int .i64 (d.shape 8), .slice ao1 d.groups.1 cap1, .slice ao2 d.on.1 cap2, .slice (some ⟨b3, off3, none⟩) d.tapes.1 cap3, .int .i64 d.writes, .int .i64 d.stop, .bool d.down] 34 := HT4.out.call bA
          have y5_0 : W5.cell? ⟨wx.heap.size, 0, none⟩ = some (.int .i64 ((d.tapes.2 t).recs.2 i).kind) := X5.cell 0
          have y5_1 : W5.cell? ⟨wx.heap.size, 1, none⟩ = some (.int .i64 ((d.tapes.2 t).recs.2 i).seq) := X5.cell 1
          have y5_2 : W5.cell? ⟨wx.heap.size, 2, none⟩ = some (.string ((d.tapes.2 t).recs.2 i).name) := X5.cell 2
          have y5_3 : W5.cell? ⟨wx.heap.size, 3, none⟩ = some (.int .i64 ((d.tapes.2 t).recs.2 i).length) := X5.cell 3
          have y5_4 : W5.cell? ⟨wx.heap.size, 4, none⟩ = some (.int .i64 ((d.tapes.2 t).recs.2 i).group) := X5.cell 4
          have y5_5 : W5.cell? ⟨wx.heap.size, 5, none⟩ = some (.int .i64 ((d.tapes.2 t).recs.2 i).row) := X5.cell 5
          have y5_6 : W5.cell? ⟨wx.heap.size, 6, none⟩ = some (.slice ro6 ((d.tapes.2 t).recs.2 i).rows.1 rc6) := X5.cell 6
          have y5_7 : W5.cell? ⟨wx.heap.size, 7, none⟩ = some (.slice ro7 ((d.tapes.2 t).recs.2 i).data.1 rc7) := X5.cell 7
          have y5_8 : W5.cell? ⟨wx.heap.size, 8, none⟩ = some (.slice ro8 ((d.tapes.2 t).recs.2 i).delta.1 rc8) := X5.cell 8
          have x5_0 : W5.cell? ⟨w.heap.size, 0, none⟩ = some (.int .i64 (d.shape 0)) := T5.b1.cell 0
          have x5_1 : W5.cell? ⟨w.heap.size, 1, none⟩ = some (.int .i64 (d.shape 1)) := T5.b1.cell 1
          have x5_2 : W5.cell? ⟨w.heap.size, 2, none⟩ = some (.int .i64 (d.shape 2)) := T5.b1.cell 2
          have x5_3 : W5.cell? ⟨w.heap.size, 3, none⟩ = some (.int .i64 (d.shape 3)) := T5.b1.cell 3
          have x5_4 : W5.cell? ⟨w.heap.size, 4, none⟩ = some (.int .i64 (d.shape 4)) := T5.b1.cell 4
          have x5_5 : W5.cell? ⟨w.heap.size, 5, none⟩ = some (.int .i64 (d.shape 5)) := T5.b1.cell 5
          have x5_6 : W5.cell? ⟨w.heap.size, 6, none⟩ = some (.int .i64 (d.shape 6)) := T5.b1.cell 6
          have x5_7 : W5.cell? ⟨w.heap.size, 7, none⟩ = some (.int .i64 (d.shape 7)) := T5.b1.cell 7
          have x5_8 : W5.cell? ⟨w.heap.size, 8, none⟩ = some (.int .i64 (d.shape 8)) := T5.b1.cell 8
          have CR := rec_det HX.out (implRec_any d.shape ((d.tapes.2 t).recs.2 i) _ hi W5 (layRec.rd_below HRR.out bA (by omega)) (by have := bA.size; omega) (HNM.out t hlt i hli))
          unfold shapeV at CR
          have HB5 : Hid (Below wx.heap.size wx W5) := bA
          clear r0 r1 r2 r3 r4 r5 r6 r7 r8 bA X5 T5 hW5
          go_wp2_with fail
          refine CR.mono ?_
          rintro e w6 ⟨rfl, b6'⟩
          have HB6 : Hid (Below wo.heap.size wo w6) := HB4.out.trans ((HB5.out.trans (b6'.mono HB5.out.size)).mono HB4.out.size)
          clear b6' CR y5_0 x5_0 y5_1 x5_1 y5_2 x5_2 y5_3 x5_3 y5_4 x5_4 y5_5 x5_5 y5_6 x5_6 y5_7 x5_7 y5_8 x5_8
          by_cases hx0 : X = 0
          · subst hx0
            go_wp2
            go_roundw
            case rel => exact ⟨i + 1, by omega, by go_num, fun k hk => by
                          by_cases c : k = i
                          · subst c; exact HX.out
                          · exact HAL2.out k (by omega), HB6.out⟩
            case measure => simp [intOf]; omega
          · have hne : (X != 0) = true := by simp [hx0]
            go_wp2
            go_ret
            exact ⟨X, rfl, .inr ⟨hx0, t, i, hlt, hli, HX.out, HAL2.out, HAL.out⟩, (HT1.out.call HB6.out).bel⟩
        · obtain rfl : i = (d.tapes.2 t).recs.1 := by omega
          clear hb4
          go_wp2
          go_roundw
          case rel => exact ⟨t + 1, by omega, by go_num, fun u hu => by
                        by_cases c : u = t
                        · subst c; exact HAL2.out
                        · exact HAL.out u (by omega), HT1.out.call HB4.out⟩
          case measure => simp [intOf]; omega
    · obtain rfl : t = d.tapes.1 := by omega
      go_wp2
      go_ret
      exact ⟨0, rfl, .inl ⟨rfl, HAL.out⟩, HT1.out.bel⟩
end Go.Proofs.YtbmfndjglndnlaaGreat

namespace Go.Proofs.YtbmfndjglndnlaaGreat
open Go.RowKit F256
set_option linter.unusedVariables false
set_option linter.unusedSimpArgs false
set_option maxHeartbeats 16000000 in
set_option maxRecDepth 20000 in
theorem implWorld_any (d : WorldD) (cs : List Value) (hi : Nat) (w : World) (h : layWorld.rd w hi d cs) (hhi : hi ≤ w.heap.size) (hnm : ∀ t, t < d.tapes.1 → ∀ i, i < (d.tapes.2 t).recs.1 → ((d.tapes.2 t).recs.2 i).name.size ≤ 1048576) :
    Calls Tryz.prog 68 #[.agg cs.toArray] w (WldPost d w) := by
  obtain ⟨ao1, cap1, ao2, cap2, ao3, cap3, rfl, g1, g2, g3, -⟩ := World_rd h
  have HRD : Hid (layWorld.rd w hi d [.int .i64 (d.shape 0), .int .i64 (d.shape 1), .int .i64 (d.shape 2), .int .i64 (d.shape 3), .int .i64 (d.shape 4), .int .i64 (d.shape 5), .int .i64 (d.shape 6), .int .i64 (d.shape 7), .int .i64 (d.shape 8), .slice ao1 d.groups.1 cap1, .slice ao2 d.on.1 cap2, .slice ao3 d.tapes.1 cap3, .int .i64 d.writes, .int .i64 d.stop, .bool d.down]) := h
  have HG1 : Hid (((layDrive.slice 84).slice 85).rd w hi d.groups [.slice ao1 d.groups.1 cap1]) := g1
  have HG3 : Hid ((layTape.slice 94).rd w hi d.tapes [.slice ao3 d.tapes.1 cap3]) := g3
  have hm3 : d.tapes.1 ≤ maxLen := by obtain ⟨_, _, _, h, _⟩ := g3; exact h
  unfold maxLen at hm3
  have HNM : Hid (∀ t, t < d.tapes.1 → ∀ i, i < (d.tapes.2 t).recs.1 → ((d.tapes.2 t).recs.2 i).name.size ≤ 1048576) := hnm
  clear h g1 g2 g3 hnm
  have T0 := one_new w #[.int .i64 (d.shape 0), .int .i64 (d.shape 1), .int .i64 (d.shape 2), .int .i64 (d.shape 3), .int .i64 (d.shape 4), .int .i64 (d.shape 5), .int .i64 (d.shape 6), .int .i64 (d.shape 7), .int .i64 (d.shape 8), .slice ao1 d.groups.1 cap1, .slice ao2 d.on.1 cap2, .slice ao3 d.tapes.1 cap3, .int .i64 d.writes, .int .i64 d.stop, .bool d.down] 34
  have CSh := fun w' => implShape_any d.shape w'
  unfold shapeV at CSh
  go_enter Tryz.func68, Tryz.ntmps68
  go_wp2_with fail
  refine (CSh _).mono ?_
  rintro e w1 ⟨x, rfl, hx, b1⟩
  have T1 : One w w1 #[.int .i64 (d.shape 0), .int .i64 (d.shape 1), .int .i64 (d.shape 2), .int .i64 (d.shape 3), .int .i64 (d.shape 4), .int .i64 (d.shape 5), .int .i64 (d.shape 6), .int .i64 (d.shape 7), .int .i64 (d.shape 8), .slice ao1 d.groups.1 cap1, .slice ao2 d.on.1 cap2, .slice ao3 d.tapes.1 cap3, .int .i64 d.writes, .int .i64 d.stop, .bool d.down] 34 := T0.call b1
  have HT1 : Hid (One w w1 #[.int .i64 (d.shape 0), .int .i64 (d.shape 1), .int .i64 (d.shape 2), .int .i64 (d.shape 3), .int .i64 (d.shape 4), .int .i64 (d.shape 5), .int .i64 (d.shape 6), .int .i64 (d.shape 7), .int .i64 (d.shape 8), .slice ao1 d.groups.1 cap1, .slice ao2 d.on.1 cap2, .slice ao3 d.tapes.1 cap3, .int .i64 d.writes, .int .i64 d.stop, .bool d.down] 34) := T1
  clear b1 T0 CSh
  have x1_0 : w1.cell? ⟨w.heap.size, 0, none⟩ = some (.int .i64 (d.shape 0)) := T1.b1.cell 0
  have x1_1 : w1.cell? ⟨w.heap.size, 1, none⟩ = some (.int .i64 (d.shape 1)) := T1.b1.cell 1
  have x1_2 : w1.cell? ⟨w.heap.size, 2, none⟩ = some (.int .i64 (d.shape 2)) := T1.b1.cell 2
  have x1_3 : w1.cell? ⟨w.heap.size, 3, none⟩ = some (.int .i64 (d.shape 3)) := T1.b1.cell 3
  have x1_4 : w1.cell? ⟨w.heap.size, 4, none⟩ = some (.int .i64 (d.shape 4)) := T1.b1.cell 4
  have x1_5 : w1.cell? ⟨w.heap.size, 5, none⟩ = some (.int .i64 (d.shape 5)) := T1.b1.cell 5
  have x1_6 : w1.cell? ⟨w.heap.size, 6, none⟩ = some (.int .i64 (d.shape 6)) := T1.b1.cell 6
  have x1_7 : w1.cell? ⟨w.heap.size, 7, none⟩ = some (.int .i64 (d.shape 7)) := T1.b1.cell 7
  have x1_8 : w1.cell? ⟨w.heap.size, 8, none⟩ = some (.int .i64 (d.shape 8)) := T1.b1.cell 8
  have x1_9 : w1.cell? ⟨w.heap.size, 9, none⟩ = some (.slice ao1 d.groups.1 cap1) := T1.b1.cell 9
  have x1_10 : w1.cell? ⟨w.heap.size, 10, none⟩ = some (.slice ao2 d.on.1 cap2) := T1.b1.cell 10
  have x1_11 : w1.cell? ⟨w.heap.size, 11, none⟩ = some (.slice ao3 d.tapes.1 cap3) := T1.b1.cell 11
  have x1_12 : w1.cell? ⟨w.heap.size, 12, none⟩ = some (.int .i64 d.writes) := T1.b1.cell 12
  have x1_13 : w1.cell? ⟨w.heap.size, 13, none⟩ = some (.int .i64 d.stop) := T1.b1.cell 13
  have x1_14 : w1.cell? ⟨w.heap.size, 14, none⟩ = some (.bool d.down) := T1.b1.cell 14
  clear T1
  rcases hx with ⟨rfl, hno⟩ | ⟨rfl, hok⟩
  · go_wp2
    go_ret
    exact wldP rfl (Stair.fall hno) HT1.out.bel
  have HOK : Hid (OkShape d.shape) := hok
  clear hok
  obtain ⟨t1, h1⟩ := exB (BuiltP d)
  have C1 := det_b (groupsFit_any d.shape HOK.out d.groups _ hi w1 (((layDrive.slice 84).slice 85).rd_below HG1.out HT1.out.bel hhi) (Nat.le_trans hhi HT1.out.bel.size)) (show t1 = true ↔ GroupsP d.shape d.groups from h1)
  unfold shapeV at C1
  have H1 : Hid (t1 = true ↔ BuiltP d) := h1
  clear h1
  go_wp2_with fail
  refine C1.mono ?_
  rintro e w2 ⟨rfl, b2⟩
  have T2 : One w w2 #[.int .i64 (d.shape 0), .int .i64 (d.shape 1), .int .i64 (d.shape 2), .int .i64 (d.shape 3), .int .i64 (d.shape 4), .int .i64 (d.shape 5), .int .i64 (d.shape 6), .int .i64 (d.shape 7), .int .i64 (d.shape 8), .slice ao1 d.groups.1 cap1, .slice ao2 d.on.1 cap2, .slice ao3 d.tapes.1 cap3, .int .i64 d.writes, .int .i64 d.stop, .bool d.down] 34 := HT1.out.call b2
  have HT2 : Hid (One w w2 #[.int .i64 (d.shape 0), .int .i64 (d.shape 1), .int .i64 (d.shape 2), .int .i64 (d.shape 3), .int .i64 (d.shape 4), .int .i64 (d.shape 5), .int .i64 (d.shape 6), .int .i64 (d.shape 7), .int .i64 (d.shape 8), .slice ao1 d.groups.1 cap1, .slice ao2 d.on.1 cap2, .slice ao3 d.tapes.1 cap3, .int .i64 d.writes, .int .i64 d.stop, .bool d.down] 34) := T2
  clear b2 x1_0 x1_1 x1_2 x1_3 x1_4 x1_5 x1_6 x1_7 x1_8 x1_9 x1_10 x1_11 x1_12 x1_13 x1_14
  have x2_0 : w2.cell? ⟨w.heap.size, 0, none⟩ = some (.int .i64 (d.shape 0)) := T2.b1.cell 0
  have x2_1 : w2.cell? ⟨w.heap.size, 1, none⟩ = some (.int .i64 (d.shape 1)) := T2.b1.cell 1
  have x2_2 : w2.cell? ⟨w.heap.size, 2, none⟩ = some (.int .i64 (d.shape 2)) := T2.b1.cell 2
  have x2_3 : w2.cell? ⟨w.heap.size, 3, none⟩ = some (.int .i64 (d.shape 3)) := T2.b1.cell 3
  have x2_4 : w2.cell? ⟨w.heap.size, 4, none⟩ = some (.int .i64 (d.shape 4)) := T2.b1.cell 4
  have x2_5 : w2.cell? ⟨w.heap.size, 5, none⟩ = some (.int .i64 (d.shape 5)) := T2.b1.cell 5
  have x2_6 : w2.cell? ⟨w.heap.size, 6, none⟩ = some (.int .i64 (d.shape 6)) := T2.b1.cell 6
  have x2_7 : w2.cell? ⟨w.heap.size, 7, none⟩ = some (.int .i64 (d.shape 7)) := T2.b1.cell 7
  have x2_8 : w2.cell? ⟨w.heap.size, 8, none⟩ = some (.int .i64 (d.shape 8)) := T2.b1.cell 8
  have x2_9 : w2.cell? ⟨w.heap.size, 9, none⟩ = some (.slice ao1 d.groups.1 cap1) := T2.b1.cell 9
  have x2_10 : w2.cell? ⟨w.heap.size, 10, none⟩ = some (.slice ao2 d.on.1 cap2) := T2.b1.cell 10
  have x2_11 : w2.cell? ⟨w.heap.size, 11, none⟩ = some (.slice ao3 d.tapes.1 cap3) := T2.b1.cell 11
  have x2_12 : w2.cell? ⟨w.heap.size, 12, none⟩ = some (.int .i64 d.writes) := T2.b1.cell 12
  have x2_13 : w2.cell? ⟨w.heap.size, 13, none⟩ = some (.int .i64 d.stop) := T2.b1.cell 13
  have x2_14 : w2.cell? ⟨w.heap.size, 14, none⟩ = some (.bool d.down) := T2.b1.cell 14
  clear T2
  clear C1
  cases t1 with
  | false =>
    go_wp2
    go_ret
    exact wldP rfl (Stair.pass HOK.out (Stair.fall (fun h => by have := H1.out.2 h.1; simp at this))) HT2.out.bel
  | true =>
  have HB : Hid (BuiltP d) := H1.out.1 rfl
  clear H1
  obtain ⟨t2, h2⟩ := exB (OnP d)
  have C2 := det_b (onFits_any d HOK.out _ hi w2 (layWorld.rd_below HRD.out HT2.out.bel hhi) (Nat.le_trans hhi HT2.out.bel.size)) h2
  have H2 : Hid (t2 = true ↔ OnP d) := h2
  clear h2
  go_wp2_with fail
  refine C2.mono ?_
  rintro e w3 ⟨rfl, b3⟩
  have T3 : One w w3 #[.int .i64 (d.shape 0), .int .i64 (d.shape 1), .int .i64 (d.shape 2), .int .i64 (d.shape 3), .int .i64 (d.shape 4), .int .i64 (d.shape 5), .int .i64 (d.shape 6), .int .i64 (d.shape 7), .int .i64 (d.shape 8), .slice ao1 d.groups.1 cap1, .slice ao2 d.on.1 cap2, .slice ao3 d.tapes.1 cap3, .int .i64 d.writes, .int .i64 d.stop, .bool d.down] 34 := HT2.out.call b3
  have HT3 : Hid (One w w3 #[.int .i64 (d.shape 0), .int .i64 (d.shape 1), .int .i64 (d.shape 2), .int .i64 (d.shape 3), .int .i64 (d.shape 4), .int .i64 (d.shape 5), .int .i64 (d.shape 6), .int .i64 (d.shape 7), .int .i64 (d.shape 8), .slice ao1 d.groups.1 cap1, .slice ao2 d.on.1 cap2, .slice ao3 d.tapes.1 cap3, .int .i64 d.writes, .int .i64 d.stop, .bool d.down] 34) := T3
  clear b3 x2_0 x2_1 x2_2 x2_3 x2_4 x2_5 x2_6 x2_7 x2_8 x2_9 x2_10 x2_11 x2_12 x2_13 x2_14
  have x3_0 : w3.cell? ⟨w.heap.size, 0, none⟩ = some (.int .i64 (d.shape 0)) := T3.b1.cell 0
  have x3_1 : w3.cell? ⟨w.heap.size, 1, none⟩ = some (.int .i64 (d.shape 1)) := T3.b1.cell 1
  have x3_2 : w3.cell? ⟨w.heap.size, 2, none⟩ = some (.int .i64 (d.shape 2)) := T3.b1.cell 2
  have x3_3 : w3.cell? ⟨w.heap.size, 3, none⟩ = some (.int .i64 (d.shape 3)) := T3.b1.cell 3
  have x3_4 : w3.cell? ⟨w.heap.size, 4, none⟩ = some (.int .i64 (d.shape 4)) := T3.b1.cell 4
  have x3_5 : w3.cell? ⟨w.heap.size, 5, none⟩ = some (.int .i64 (d.shape 5)) := T3.b1.cell 5
  have x3_6 : w3.cell? ⟨w.heap.size, 6, none⟩ = some (.int .i64 (d.shape 6)) := T3.b1.cell 6
  have x3_7 : w3.cell? ⟨w.heap.size, 7, none⟩ = some (.int .i64 (d.shape 7)) := T3.b1.cell 7
  have x3_8 : w3.cell? ⟨w.heap.size, 8, none⟩ = some (.int .i64 (d.shape 8)) := T3.b1.cell 8
  have x3_9 : w3.cell? ⟨w.heap.size, 9, none⟩ = some (.slice ao1 d.groups.1 cap1) := T3.b1.cell 9
  have x3_10 : w3.cell? ⟨w.heap.size, 10, none⟩ = some (.slice ao2 d.on.1 cap2) := T3.b1.cell 10
  have x3_11 : w3.cell? ⟨w.heap.size, 11, none⟩ = some (.slice ao3 d.tapes.1 cap3) := T3.b1.cell 11
  have x3_12 : w3.cell? ⟨w.heap.size, 12, none⟩ = some (.int .i64 d.writes) := T3.b1.cell 12
  have x3_13 : w3.cell? ⟨w.heap.size, 13, none⟩ = some (.int .i64 d.stop) := T3.b1.cell 13
  have x3_14 : w3.cell? ⟨w.heap.size, 14, none⟩ = some (.bool d.down) := T3.b1.cell 14
  clear T3
  clear C2
  cases t2 with
  | false =>
    go_wp2
    go_ret
    exact wldP rfl (Stair.pass HOK.out (Stair.fall (fun h => by have := H2.out.2 h.2.1; simp at this))) HT3.out.bel
  | true =>
  have HO : Hid (OnP d) := H2.out.1 rfl
  clear H2
  by_cases h5 : d.tapes.1 = 2
  · have n5 : ((d.tapes.1 : Int) != 2) = false := by simp; omega
    have HFM : Hid (FormP d) := ⟨HB.out, HO.out, h5⟩
    clear h5
    obtain ⟨t4, h4⟩ := exB (Any_overfull d.tapes)
    have C4 := det_b (contains_overfull d.tapes _ _ hi w3 ((layTape.slice 94).rd_below HG3.out HT3.out.bel hhi) (Nat.le_trans hhi HT3.out.bel.size)) h4
    have H4 : Hid (t4 = true ↔ Any_overfull d.tapes) := h4
    clear h4
    go_wp2_with fail
    refine C4.mono ?_
    rintro e w4 ⟨rfl, b4⟩
    have T4 : One w w4 #[.int .i64 (d.shape 0), .int .i64 (d.shape 1), .int .i64 (d.shape 2), .int .i64 (d.shape 3), .int .i64 (d.shape 4), .int .i64 (d.shape 5), .int .i64 (d.shape 6), .int .i64 (d.shape 7), .int .i64 (d.shape 8), .slice ao1 d.groups.1 cap1, .slice ao2 d.on.1 cap2, .slice ao3 d.tapes.1 cap3, .int .i64 d.writes, .int .i64 d.stop, .bool d.down] 34 := HT3.out.call b4
    have HT4 : Hid (One w w4 #[.int .i64 (d.shape 0), .int .i64 (d.shape 1), .int .i64 (d.shape 2), .int .i64 (d.shape 3), .int .i64 (d.shape 4), .int .i64 (d.shape 5), .int .i64 (d.shape 6), .int .i64 (d.shape 7), .int .i64 (d.shape 8), .slice ao1 d.groups.1 cap1, .slice ao2 d.on.1 cap2, .slice ao3 d.tapes.1 cap3, .int .i64 d.writes, .int .i64 d.stop, .bool d.down] 34) := T4
    clear b4 x3_0 x3_1 x3_2 x3_3 x3_4 x3_5 x3_6 x3_7 x3_8 x3_9 x3_10 x3_11 x3_12 x3_13 x3_14
    have x4_0 : w4.cell? ⟨w.heap.size, 0, none⟩ = some (.int .i64 (d.shape 0)) := T4.b1.cell 0
    have x4_1 : w4.cell? ⟨w.heap.size, 1, none⟩ = some (.int .i64 (d.shape 1)) := T4.b1.cell 1
    have x4_2 : w4.cell? ⟨w.heap.size, 2, none⟩ = some (.int .i64 (d.shape 2)) := T4.b1.cell 2
    have x4_3 : w4.cell? ⟨w.heap.size, 3, none⟩ = some (.int .i64 (d.shape 3)) := T4.b1.cell 3
    have x4_4 : w4.cell? ⟨w.heap.size, 4, none⟩ = some (.int .i64 (d.shape 4)) := T4.b1.cell 4
    have x4_5 : w4.cell? ⟨w.heap.size, 5, none⟩ = some (.int .i64 (d.shape 5)) := T4.b1.cell 5
    have x4_6 : w4.cell? ⟨w.heap.size, 6, none⟩ = some (.int .i64 (d.shape 6)) := T4.b1.cell 6
    have x4_7 : w4.cell? ⟨w.heap.size, 7, none⟩ = some (.int .i64 (d.shape 7)) := T4.b1.cell 7
    have x4_8 : w4.cell? ⟨w.heap.size, 8, none⟩ = some (.int .i64 (d.shape 8)) := T4.b1.cell 8
    have x4_9 : w4.cell? ⟨w.heap.size, 9, none⟩ = some (.slice ao1 d.groups.1 cap1) := T4.b1.cell 9
    have x4_10 : w4.cell? ⟨w.heap.size, 10, none⟩ = some (.slice ao2 d.on.1 cap2) := T4.b1.cell 10
    have x4_11 : w4.cell? ⟨w.heap.size, 11, none⟩ = some (.slice ao3 d.tapes.1 cap3) := T4.b1.cell 11
    have x4_12 : w4.cell? ⟨w.heap.size, 12, none⟩ = some (.int .i64 d.writes) := T4.b1.cell 12
    have x4_13 : w4.cell? ⟨w.heap.size, 13, none⟩ = some (.int .i64 d.stop) := T4.b1.cell 13
    have x4_14 : w4.cell? ⟨w.heap.size, 14, none⟩ = some (.bool d.down) := T4.b1.cell 14
    clear T4
    clear C4
    cases t4 with
    | true =>
      go_wp2
      go_ret
      exact wldP rfl (Stair.pass HOK.out (Stair.pass HFM.out (Stair.fall (fun h => by
        obtain ⟨t, ht, hh⟩ := H4.out.1 (by simp)
        have := h t ht
        omega)))) HT4.out.bel
    | false =>
    have HFW : Hid (FewP d) := fun t ht => by
      by_cases c : 200 < (d.tapes.2 t).recs.1
      · have := H4.out.2 ⟨t, ht, c⟩
        simp at this
      · omega
    clear H4
    have C5 := recsFault_any d _ hi w4 (layWorld.rd_below HRD.out HT4.out.bel hhi) (Nat.le_trans hhi HT4.out.bel.size) HNM.out
    go_wp2_with fail
    refine C5.mono ?_
    rintro e w5 ⟨X, rfl, hX, b5⟩
    have T5 : One w w5 #[.int .i64 (d.shape 0), .int .i64 (d.shape 1), .int .i64 (d.shape 2), .int .i64 (d.shape 3), .int .i64 (d.shape 4), .int .i64 (d.shape 5), .int .i64 (d.shape 6), .int .i64 (d.shape 7), .int .i64 (d.shape 8), .slice ao1 d.groups.1 cap1, .slice ao2 d.on.1 cap2, .slice ao3 d.tapes.1 cap3, .int .i64 d.writes, .int .i64 d.stop, .bool d.down] 34 := HT4.out.call b5
    have HT5 : Hid (One w w5 #[.int .i64 (d.shape 0), .int .i64 (d.shape 1), .int .i64 (d.shape 2), .int .i64 (d.shape 3), .int .i64 (d.shape 4), .int .i64 (d.shape 5), .int .i64 (d.shape 6), .int .i64 (d.shape 7), .int .i64 (d.shape 8), .slice ao1 d.groups.1 cap1, .slice ao2 d.on.1 cap2, .slice ao3 d.tapes.1 cap3, .int .i64 d.writes, .int .i64 d.stop, .bool d.down] 34) := T5
    clear b5 x4_0 x4_1 x4_2 x4_3 x4_4 x4_5 x4_6 x4_7 x4_8 x4_9 x4_10 x4_11 x4_12 x4_13 x4_14
    have x5_0 : w5.cell? ⟨w.heap.size, 0, none⟩ = some (.int .i64 (d.shape 0)) := T5.b1.cell 0
    have x5_1 : w5.cell? ⟨w.heap.size, 1, none⟩ = some (.int .i64 (d.shape 1)) := T5.b1.cell 1
    have x5_2 : w5.cell? ⟨w.heap.size, 2, none⟩ = some (.int .i64 (d.shape 2)) := T5.b1.cell 2
    have x5_3 : w5.cell? ⟨w.heap.size, 3, none⟩ = some (.int .i64 (d.shape 3)) := T5.b1.cell 3
    have x5_4 : w5.cell? ⟨w.heap.size, 4, none⟩ = some (.int .i64 (d.shape 4)) := T5.b1.cell 4
    have x5_5 : w5.cell? ⟨w.heap.size, 5, none⟩ = some (.int .i64 (d.shape 5)) := T5.b1.cell 5
    have x5_6 : w5.cell? ⟨w.heap.size, 6, none⟩ = some (.int .i64 (d.shape 6)) := T5.b1.cell 6
    have x5_7 : w5.cell? ⟨w.heap.size, 7, none⟩ = some (.int .i64 (d.shape 7)) := T5.b1.cell 7
    have x5_8 : w5.cell? ⟨w.heap.size, 8, none⟩ = some (.int .i64 (d.shape 8)) := T5.b1.cell 8
    have x5_9 : w5.cell? ⟨w.heap.size, 9, none⟩ = some (.slice ao1 d.groups.1 cap1) := T5.b1.cell 9
    have x5_10 : w5.cell? ⟨w.heap.size, 10, none⟩ = some (.slice ao2 d.on.1 cap2) := T5.b1.cell 10
    have x5_11 : w5.cell? ⟨w.heap.size, 11, none⟩ = some (.slice ao3 d.tapes.1 cap3) := T5.b1.cell 11
    have x5_12 : w5.cell? ⟨w.heap.size, 12, none⟩ = some (.int .i64 d.writes) := T5.b1.cell 12
    have x5_13 : w5.cell? ⟨w.heap.size, 13, none⟩ = some (.int .i64 d.stop) := T5.b1.cell 13
    have x5_14 : w5.cell? ⟨w.heap.size, 14, none⟩ = some (.bool d.down) := T5.b1.cell 14
    clear T5
    clear C5
    by_cases hx0 : X = 0
    · subst hx0
      have HRZ : Hid (RecsAns d.shape d.tapes.1 d.tapes.2 0) := hX
      clear hX
      obtain ⟨t6, h6⟩ := exB (Any_wipedWithRecs d.tapes)
      have C6 := det_b (contains_wipedWithRecs d.tapes _ _ hi w5 ((layTape.slice 94).rd_below HG3.out HT5.out.bel hhi) (Nat.le_trans hhi HT5.out.bel.size)) h6
      have H6 : Hid (t6 = true ↔ Any_wipedWithRecs d.tapes) := h6
      clear h6
      go_wp2_with fail
      refine C6.mono ?_
      rintro e w6 ⟨rfl, b6⟩
      have T6 : One w w6 #[.int .i64 (d.shape 0), .int .i64 (d.shape 1), .int .i64 (d.shape 2), .int .i64 (d.shape 3), .int .i64 (d.shape 4), .int .i64 (d.shape 5), .int .i64 (d.shape 6), .int .i64 (d.shape 7), .int .i64 (d.shape 8), .slice ao1 d.groups.1 cap1, .slice ao2 d.on.1 cap2, .slice ao3 d.tapes.1 cap3, .int .i64 d.writes, .int .i64 d.stop, .bool d.down] 34 := HT5.out.call b6
      have HT6 : Hid (One w w6 #[.int .i64 (d.shape 0), .int .i64 (d.shape 1), .int .i64 (d.shape 2), .int .i64 (d.shape 3), .int .i64 (d.shape 4), .int .i64 (d.shape 5), .int .i64 (d.shape 6), .int .i64 (d.shape 7), .int .i64 (d.shape 8), .slice ao1 d.groups.1 cap1, .slice ao2 d.on.1 cap2, .slice ao3 d.tapes.1 cap3, .int .i64 d.writes, .int .i64 d.stop, .bool d.down] 34) := T6
      clear b6 x5_0 x5_1 x5_2 x5_3 x5_4 x5_5 x5_6 x5_7 x5_8 x5_9 x5_10 x5_11 x5_12 x5_13 x5_14
      have x6_0 : w6.cell? ⟨w.heap.size, 0, none⟩ = some (.int .i64 (d.shape 0)) := T6.b1.cell 0
      have x6_1 : w6.cell? ⟨w.heap.size, 1, none⟩ = some (.int .i64 (d.shape 1)) := T6.b1.cell 1
      have x6_2 : w6.cell? ⟨w.heap.size, 2, none⟩ = some (.int .i64 (d.shape 2)) := T6.b1.cell 2
      have x6_3 : w6.cell? ⟨w.heap.size, 3, none⟩ = some (.int .i64 (d.shape 3)) := T6.b1.cell 3
      have x6_4 : w6.cell? ⟨w.heap.size, 4, none⟩ = some (.int .i64 (d.shape 4)) := T6.b1.cell 4
      have x6_5 : w6.cell? ⟨w.heap.size, 5, none⟩ = some (.int .i64 (d.shape 5)) := T6.b1.cell 5
      have x6_6 : w6.cell? ⟨w.heap.size, 6, none⟩ = some (.int .i64 (d.shape 6)) := T6.b1.cell 6
      have x6_7 : w6.cell? ⟨w.heap.size, 7, none⟩ = some (.int .i64 (d.shape 7)) := T6.b1.cell 7
      have x6_8 : w6.cell? ⟨w.heap.size, 8, none⟩ = some (.int .i64 (d.shape 8)) := T6.b1.cell 8
      have x6_9 : w6.cell? ⟨w.heap.size, 9, none⟩ = some (.slice ao1 d.groups.1 cap1) := T6.b1.cell 9
      have x6_10 : w6.cell? ⟨w.heap.size, 10, none⟩ = some (.slice ao2 d.on.1 cap2) := T6.b1.cell 10
      have x6_11 : w6.cell? ⟨w.heap.size, 11, none⟩ = some (.slice ao3 d.tapes.1 cap3) := T6.b1.cell 11
      have x6_12 : w6.cell? ⟨w.heap.size, 12, none⟩ = some (.int .i64 d.writes) := T6.b1.cell 12
      have x6_13 : w6.cell? ⟨w.heap.size, 13, none⟩ = some (.int .i64 d.stop) := T6.b1.cell 13
      have x6_14 : w6.cell? ⟨w.heap.size, 14, none⟩ = some (.bool d.down) := T6.b1.cell 14
      clear T6
      clear C6
      cases t6 with
      | true =>
        go_wp2
        go_ret
        exact wldP rfl (Stair.pass HOK.out (Stair.pass HFM.out (Stair.pass HFW.out (Stair.last (.inr ⟨HRZ.out, Stair.fall (fun h => by obtain ⟨t, ht, h1, h2⟩ := H6.out.1 (by simp); have := h t ht h1; omega)⟩))))) HT6.out.bel
      | false =>
      have HCL : Hid (CleanP d) := fun t ht hw => by
        by_cases c : 0 < (d.tapes.2 t).recs.1
        · have := H6.out.2 ⟨t, ht, hw, c⟩
          simp at this
        · omega
      clear H6
      by_cases h7 : InP d.writes 0 1000000000
      · go_wp2_with fail
        refine (inBounds_b (t := true) (by omega) (exBT h7) _).mono ?_
        rintro e w' ⟨rfl, hw'⟩
        obtain rfl := hw'.symm
        by_cases h8 : InP d.stop (-1) 1000000000
        · go_wp2_with fail
          refine (inBounds_b (t := true) (by omega) (exBT h8) _).mono ?_
          rintro e w' ⟨rfl, hw'⟩
          obtain rfl := hw'.symm
          go_wp2
          go_ret
          exact wldP rfl (Stair.pass HOK.out (Stair.pass HFM.out (Stair.pass HFW.out (Stair.last (.inr ⟨HRZ.out, Stair.pass HCL.out (Stair.pass ⟨h7, h8⟩ (Stair.last rfl))⟩))))) HT6.out.bel
        · go_wp2_with fail
          refine (inBounds_b (t := false) (by omega) (exBF h8) _).mono ?_
          rintro e w' ⟨rfl, hw'⟩
          obtain rfl := hw'.symm
          go_wp2
          go_ret
          exact wldP rfl (Stair.pass HOK.out (Stair.pass HFM.out (Stair.pass HFW.out (Stair.last (.inr ⟨HRZ.out, Stair.pass HCL.out (Stair.fall (fun h => h8 h.2))⟩))))) HT6.out.bel
      · go_wp2_with fail
        refine (inBounds_b (t := false) (by omega) (exBF h7) _).mono ?_
        rintro e w' ⟨rfl, hw'⟩
        obtain rfl := hw'.symm
        go_wp2
        go_ret
        exact wldP rfl (Stair.pass HOK.out (Stair.pass HFM.out (Stair.pass HFW.out (Stair.last (.inr ⟨HRZ.out, Stair.pass HCL.out (Stair.fall (fun h => h7 h.1))⟩))))) HT6.out.bel
    · have hne : (X != 0) = true := by simp [hx0]
      go_wp2
      go_ret
      exact wldP rfl (Stair.pass HOK.out (Stair.pass HFM.out (Stair.pass HFW.out (Stair.last (.inl ⟨hx0, hX⟩))))) HT5.out.bel
  · have n5 : ((d.tapes.1 : Int) != 2) = true := by simp; omega
    go_wp2
    go_ret
    exact wldP rfl (Stair.pass HOK.out (Stair.fall (fun h => h5 h.2.2))) HT3.out.bel
end Go.Proofs.YtbmfndjglndnlaaGreat

namespace Go.Proofs.YtbmfndjglndnlaaGreat
open Go.RowKit F256
set_option linter.unusedVariables false
set_option linter.unusedSimpArgs false
theorem world15 {w : World} {hi : Nat} {d : WorldD} {cs : List Value} (h : layWorld.rd w hi d cs) : ∃ v0 v1 v2 v3 v4 v5 v6 v7 v8 vp0 vl0 vq0 vp1 vl1 vq1 vp2 vl2 vq2 v9 v10 vb, cs = [.int .i64 v0, .int .i64 v1, .int .i64 v2, .int .i64 v3, .int .i64 v4, .int .i64 v5, .int .i64 v6, .int .i64 v7, .int .i64 v8, .slice vp0 vl0 vq0, .slice vp1 vl1 vq1, .slice vp2 vl2 vq2, .int .i64 v9, .int .i64 v10, .bool vb] := by
  obtain ⟨p1, pc1, p2, pc2, p3, pc3, rfl, -⟩ := World_rd h
  exact ⟨_, _, _, _, _, _, _, _, _, _, _, _, _, _, _, _, _, _, _, _, _, rfl⟩
theorem world15O {w : World} {lo hi : Nat} {d : WorldD} {cs : List Value} (h : OwnT layWorld w lo hi d cs) : ∃ v0 v1 v2 v3 v4 v5 v6 v7 v8 vp0 vl0 vq0 vp1 vl1 vq1 vp2 vl2 vq2 v9 v10 vb, cs = [.int .i64 v0, .int .i64 v1, .int .i64 v2, .int .i64 v3, .int .i64 v4, .int .i64 v5, .int .i64 v6, .int .i64 v7, .int .i64 v8, .slice vp0 vl0 vq0, .slice vp1 vl1 vq1, .slice vp2 vl2 vq2, .int .i64 v9, .int .i64 v10, .bool vb] := world15 h.rd
def cutW (d : WorldD) : WorldD := { d with on := (0, fun _ => 0), down := true }
def raiseW (d : WorldD) (s : Int) : WorldD := { d with writes := 0, stop := s, down := false }
theorem own_cut {w : World} {lo hi : Nat} {d : WorldD} {c0 c1 c2 c3 c4 c5 c6 c7 c8 c9 c10 c11 c12 c13 c14 : Value} (h : OwnT layWorld w lo hi d [c0, c1, c2, c3, c4, c5, c6, c7, c8, c9, c10, c11, c12, c13, c14]) : OwnT layWorld w lo hi (cutW d) [c0, c1, c2, c3, c4, c5, c6, c7, c8, c9, .slice none 0 0, c11, c12, c13, .bool true] := by
  obtain ⟨M, h1, h2, h3⟩ := h
  obtain ⟨a1, b1, a2, b2, a3, b3, K1, K2, K3, e, hM, o1, o2, o3, k0, k4, k5⟩ := World_own h1
  simp only [List.cons.injEq, and_true] at e
  obtain ⟨rfl, rfl, rfl, rfl, rfl, rfl, rfl, rfl, rfl, rfl, rfl, rfl, rfl, rfl, rfl⟩ := e
  subst hM
  refine ⟨K1 ++ ([] ++ (K3 ++ [])), World_mk (cutW d) o1 (own_noInts w _ (fun _ => show (-9223372036854775808 ≤ (0 : Int) ∧ (0 : Int) ≤ 9223372036854775807) by decide)) o3 k0 k4 k5, ?_, fun b hb => h3 b ?_⟩
  · obtain ⟨n1, n2, n3⟩ := List.nodup_append.1 h2
    obtain ⟨_, n4, _⟩ := List.nodup_append.1 n2
    exact List.nodup_append.2 ⟨n1, n4, fun b hb c hc => n3 b hb c (List.mem_append_right _ hc)⟩
  · rcases List.mem_append.1 hb with h | h
    · exact List.mem_append_left _ h
    · exact List.mem_append_right _ (List.mem_append_right _ h)
theorem own_raise {w : World} {lo hi : Nat} {d : WorldD} {c0 c1 c2 c3 c4 c5 c6 c7 c8 c9 c10 c11 c12 c13 c14 : Value} (s : Int) (hs : (-9223372036854775808 ≤ s ∧ s ≤ 9223372036854775807)) (h : OwnT layWorld w lo hi d [c0, c1, c2, c3, c4, c5, c6, c7, c8, c9, c10, c11, c12, c13, c14]) : OwnT layWorld w lo hi (raiseW d s) [c0, c1, c2, c3, c4, c5, c6, c7, c8, c9, c10, c11, .int .i64 0, .int .i64 s, .bool false] := by
  obtain ⟨M, h1, h2, h3⟩ := h
  obtain ⟨a1, b1, a2, b2, a3, b3, K1, K2, K3, e, hM, o1, o2, o3, k0, k4, k5⟩ := World_own h1
  simp only [List.cons.injEq, and_true] at e
  obtain ⟨rfl, rfl, rfl, rfl, rfl, rfl, rfl, rfl, rfl, rfl, rfl, rfl, rfl, rfl, rfl⟩ := e
  subst hM
  exact ⟨K1 ++ (K2 ++ (K3 ++ [])), World_mk (raiseW d s) o1 o2 o3 k0 (show (-9223372036854775808 ≤ (0 : Int) ∧ (0 : Int) ≤ 9223372036854775807) by decide) hs, h2, h3⟩
def CutAns (d : WorldD) (r : WorldResultD) : Prop := (∃ x, x ≠ 0 ∧ WldAns d x ∧ r = ⟨x, zeroW⟩) ∨ (WldAns d 0 ∧ r = ⟨0, cutW d⟩)
def RaiseAns (d : WorldD) (s : Int) (r : WorldResultD) : Prop := (∃ x, x ≠ 0 ∧ WldAns d x ∧ r = ⟨x, zeroW⟩) ∨ (WldAns d 0 ∧ ((¬ InP s (-1) 1000000000 ∧ r = ⟨3, zeroW⟩) ∨ (InP s (-1) 1000000000 ∧ ((d.down = false ∧ r = ⟨1, zeroW⟩) ∨ (d.down = true ∧ r = ⟨0, raiseW d s⟩)))))
theorem CutAns.one {d : WorldD} {r q : WorldResultD} (h : CutAns d r) (k : CutAns d q) : r = q := by
  rcases h with ⟨x, h1, h2, rfl⟩ | ⟨h1, rfl⟩ <;> rcases k with ⟨y, k1, k2, rfl⟩ | ⟨k1, rfl⟩
  · rw [h2.one k2]
  · exact absurd (h2.one k1) h1
  · exact absurd (k2.one h1) k1
  · rfl
theorem RaiseAns.one {d : WorldD} {s : Int} {r q : WorldResultD} (h : RaiseAns d s r) (k : RaiseAns d s q) : r = q := by
  rcases h with ⟨x, h1, h2, rfl⟩ | ⟨h1, h⟩ <;> rcases k with ⟨y, k1, k2, rfl⟩ | ⟨k1, k⟩
  · rw [h2.one k2]
  · exact absurd (h2.one k1) h1
  · exact absurd (k2.one h1) k1
  · rcases h with ⟨h2, rfl⟩ | ⟨h2, h⟩ <;> rcases k with ⟨k2, rfl⟩ | ⟨k2, k⟩
    · rfl
    · exact absurd k2 h2
    · exact absurd h2 k2
    · rcases h with ⟨h3, rfl⟩ | ⟨h3, rfl⟩ <;> rcases k with ⟨k3, rfl⟩ | ⟨k3, rfl⟩
      · rfl
      · rw [h3] at k3; cases k3
      · rw [h3] at k3; cases k3
      · rfl
theorem stair_in {K : Int → Prop} : ∀ (l : List (Prop × Int)) {x : Int}, Stair l K x → K x ∨ ∃ p, p ∈ l ∧ x = p.2
  | [], x, h => .inl h
  | (p, c) :: l, x, h => by
    rcases h with ⟨_, h⟩ | ⟨_, h⟩
    · exact .inr ⟨(p, c), List.mem_cons_self .., h⟩
    · rcases stair_in l h with k | ⟨q, hq, k⟩
      · exact .inl k
      · exact .inr ⟨q, List.mem_cons_of_mem _ hq, k⟩
theorem rec_small {s : Nat → Int} {r : RecD} {x : Int} (h : RecAns s r x) : 0 ≤ x ∧ x ≤ 9 := by
  rcases stair_in _ h with k | ⟨p, hp, rfl⟩
  · rw [show x = 0 from k]; decide
  · simp at hp
    rcases hp with rfl | rfl | rfl | rfl | rfl | rfl <;> constructor <;> simp
theorem wld_small {d : WorldD} {x : Int} (h : WldAns d x) : (-9223372036854775808 ≤ x ∧ x ≤ 9223372036854775807) := by
  have key : 0 ≤ x ∧ x ≤ 9 := by
    rcases stair_in _ h with k | ⟨p, hp, rfl⟩
    · rcases k with ⟨_, k⟩ | ⟨_, k⟩
      · rcases k with ⟨rfl, _⟩ | ⟨_, t, i, _, _, hr, _⟩
        · decide
        · exact rec_small hr
      · rcases stair_in _ k with k | ⟨p, hp, rfl⟩
        · rw [show x = 0 from k]; decide
        · simp at hp
          rcases hp with rfl | rfl <;> constructor <;> simp
    · simp at hp
      rcases hp with rfl | rfl | rfl <;> constructor <;> simp
  omega
theorem wld_ok_names {d : WorldD} (h : szWorldD d ≤ 1048576) : ∀ t, t < d.tapes.1 → ∀ i, i < (d.tapes.2 t).recs.1 → ((d.tapes.2 t).recs.2 i).name.size ≤ 1048576 := fun t ht i hi => by
  have h1 : szSl szTapeD d.tapes ≤ 1048576 := by unfold szWorldD at h; omega
  have h2 : szSl szRecD (d.tapes.2 t).recs ≤ 1048576 := szSl_at h1 ht
  have h3 : szRecD ((d.tapes.2 t).recs.2 i) ≤ 1048576 := szSl_at h2 hi
  unfold szRecD at h3
  omega
end Go.Proofs.YtbmfndjglndnlaaGreat

namespace Go.Proofs.YtbmfndjglndnlaaGreat
open Go.RowKit F256
set_option linter.unusedVariables false
set_option linter.unusedSimpArgs false
theorem down_of {w : World} {hi : Nat} {d : WorldD} {c0 c1 c2 c3 c4 c5 c6 c7 c8 c9 c10 c11 c12 c13 : Value} {b : Bool} (h : layWorld.rd w hi d [c0, c1, c2, c3, c4, c5, c6, c7, c8, c9, c10, c11, c12, c13, .bool b]) : b = d.down := by
  obtain ⟨p1, pc1, p2, pc2, p3, pc3, e, -⟩ := World_rd h
  simp only [List.cons.injEq, Value.bool.injEq, and_true] at e
  exact e.2.2.2.2.2.2.2.2.2.2.2.2.2.2
end Go.Proofs.YtbmfndjglndnlaaGreat
