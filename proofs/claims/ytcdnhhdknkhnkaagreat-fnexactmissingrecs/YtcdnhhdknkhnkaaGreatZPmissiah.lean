/- Walk of the specification's look at the record of an object. -/
import Derived.Test.YtcdnhhdknkhnkaaGreatZPmissiag
import Derived.Deep.Cut
import Derived.Test.YtcdnhhdknkhnkaaGreatZPmissiab
import Derived.Deep.RegionLaw
import Derived.Deep.DeepCutAuto
import Derived.Laws.Tables
import Derived.Laws.Rows
import Derived.Test.YtcdnhhdknkhnkaaGreatProg
set_option linter.unusedVariables false
set_option linter.unusedSimpArgs false
namespace Go.Proofs.YtcdnhhdknkhnkaaGreat
open Go.RowKit F256
set_option maxHeartbeats 8000000 in
theorem l5Item_any (s : Nat → Int) (hs : OkShape s) (r : RecD) (cs : List Value) (hi : Nat) (w : World) (h : layRec.rd w hi r cs) (hhi : hi ≤ w.heap.size) :
    Calls Tryz.prog 92 #[shapeV s, .agg cs.toArray] w (BoolP (ItemP s r) w) := by
  obtain ⟨ao6, cap6, ao7, cap7, ao8, cap8, rfl, g6, g7, g8, -, -, -, hl, -⟩ := Rec_rd h
  clear h g7 g8
  have hs2 : 1 ≤ s 2 ∧ s 2 ≤ 3 ∧ 1 ≤ s 4 ∧ s 4 ≤ 6 := by
    obtain ⟨_, h2, h3, _⟩ := hs
    unfold Shp at h2
    omega
  obtain ⟨v6, e6, ⟨h6, hcp6⟩, _⟩ := g6
  cases e6
  have H6 : Hid (RdI w hi (.slice ao6 r.rows.1 cap6) r.rows.1 r.rows.2) := h6
  have HCP : Hid (CapP (.slice ao6 r.rows.1 cap6) r.rows.1) := hcp6
  have hm6 := h6.mx
  unfold maxLen at hm6
  clear h6 hcp6
  have T0 := two_newb w #[.int .i64 (s 0), .int .i64 (s 1), .int .i64 (s 2), .int .i64 (s 3), .int .i64 (s 4), .int .i64 (s 5), .int .i64 (s 6), .int .i64 (s 7), .int .i64 (s 8)] #[.int .i64 r.kind, .int .i64 r.seq, .string r.name, .int .i64 r.length, .int .i64 r.group, .int .i64 r.row, .slice ao6 r.rows.1 cap6, .slice ao7 r.data.1 cap7, .slice ao8 r.delta.1 cap8] 34 92
  have CLong := fun w' => l4Long_any s (by omega) (by omega) r.length w'
  have HIT : Hid (ItemP s r ↔ ItemP s r) := Iff.rfl
  unfold shapeV
  unfold shapeV at CLong
  go_enter Tryz.func92, Tryz.ntmps92
  by_cases hl1 : r.length = -1
  · have HL : Hid (r.length = -1) := hl1
    have e1 : (r.length == -1) = true := by simp [hl1]
    have HB : Hid (Below w.heap.size w ((w.alloc (.cells #[.int .i64 (s 0), .int .i64 (s 1), .int .i64 (s 2), .int .i64 (s 3), .int .i64 (s 4), .int .i64 (s 5), .int .i64 (s 6), .int .i64 (s 7), .int .i64 (s 8)] 34)).alloc (.cells #[.int .i64 r.kind, .int .i64 r.seq, .string r.name, .int .i64 r.length, .int .i64 r.group, .int .i64 r.row, .slice ao6 r.rows.1 cap6, .slice ao7 r.data.1 cap7, .slice ao8 r.delta.1 cap8] 92))) := T0.bel
    clear T0 CLong hl1
    obtain ⟨b0, h0⟩ : ∃ b, ((r.data.1 : Int) == 0) = b := ⟨_, rfl⟩
    obtain ⟨b1, h1⟩ : ∃ b, ((r.rows.1 : Int) == 0) = b := ⟨_, rfl⟩
    have HE : Hid (ItemP s r ↔ (b0 = true ∧ b1 = true)) := by
      show ItemP s r ↔ _
      rw [← h0, ← h1]
      unfold ItemP
      simp [HL.out]
    have hst : b0 = false ∨ (b0 = true ∧ b1 = false) ∨ (b0 = true ∧ b1 = true) := by
      clear HE h0 h1
      cases b0 <;> simp
    rcases hst with rfl | ⟨rfl, rfl⟩ | ⟨rfl, rfl⟩
    all_goals
      go_wp2
      go_ret
      first
        | exact boolNo rfl (fun h => by have := HE.out.1 h; simp at this) HB.out
        | exact boolYes rfl (HE.out.2 (by simp)) HB.out
  · have e1 : (r.length == -1) = false := by simp [hl1]
    have HL : Hid (r.length ≠ -1) := hl1
    clear hl1
    go_wp2_with fail
    refine (CLong _).mono ?_
    rintro e w1 ⟨c, rfl, hc, b1⟩
    have T1 : Two w w1 #[.int .i64 (s 0), .int .i64 (s 1), .int .i64 (s 2), .int .i64 (s 3), .int .i64 (s 4), .int .i64 (s 5), .int .i64 (s 6), .int .i64 (s 7), .int .i64 (s 8)] #[.int .i64 r.kind, .int .i64 r.seq, .string r.name, .int .i64 r.length, .int .i64 r.group, .int .i64 r.row, .slice ao6 r.rows.1 cap6, .slice ao7 r.data.1 cap7, .slice ao8 r.delta.1 cap8] 34 92 := T0.call b1
    clear b1 T0 CLong
    have HT1 : Hid (Two w w1 #[.int .i64 (s 0), .int .i64 (s 1), .int .i64 (s 2), .int .i64 (s 3), .int .i64 (s 4), .int .i64 (s 5), .int .i64 (s 6), .int .i64 (s 7), .int .i64 (s 8)] #[.int .i64 r.kind, .int .i64 r.seq, .string r.name, .int .i64 r.length, .int .i64 r.group, .int .i64 r.row, .slice ao6 r.rows.1 cap6, .slice ao7 r.data.1 cap7, .slice ao8 r.delta.1 cap8] 34 92) := T1
    have x1_0 : w1.cell? ⟨w.heap.size, 0, none⟩ = some (.int .i64 (s 0)) := T1.b1.cell 0
    have kx1_0 := cell_regrown x1_0
    have x1_1 : w1.cell? ⟨w.heap.size, 1, none⟩ = some (.int .i64 (s 1)) := T1.b1.cell 1
    have kx1_1 := cell_regrown x1_1
    have x1_2 : w1.cell? ⟨w.heap.size, 2, none⟩ = some (.int .i64 (s 2)) := T1.b1.cell 2
    have kx1_2 := cell_regrown x1_2
    have x1_3 : w1.cell? ⟨w.heap.size, 3, none⟩ = some (.int .i64 (s 3)) := T1.b1.cell 3
    have kx1_3 := cell_regrown x1_3
    have x1_4 : w1.cell? ⟨w.heap.size, 4, none⟩ = some (.int .i64 (s 4)) := T1.b1.cell 4
    have kx1_4 := cell_regrown x1_4
    have x1_5 : w1.cell? ⟨w.heap.size, 5, none⟩ = some (.int .i64 (s 5)) := T1.b1.cell 5
    have kx1_5 := cell_regrown x1_5
    have x1_6 : w1.cell? ⟨w.heap.size, 6, none⟩ = some (.int .i64 (s 6)) := T1.b1.cell 6
    have kx1_6 := cell_regrown x1_6
    have x1_7 : w1.cell? ⟨w.heap.size, 7, none⟩ = some (.int .i64 (s 7)) := T1.b1.cell 7
    have kx1_7 := cell_regrown x1_7
    have x1_8 : w1.cell? ⟨w.heap.size, 8, none⟩ = some (.int .i64 (s 8)) := T1.b1.cell 8
    have kx1_8 := cell_regrown x1_8
    have y1_0 : w1.cell? ⟨w.heap.size + 1, 0, none⟩ = some (.int .i64 r.kind) := T1.b2.cell 0
    have ky1_0 := cell_regrown y1_0
    have y1_1 : w1.cell? ⟨w.heap.size + 1, 1, none⟩ = some (.int .i64 r.seq) := T1.b2.cell 1
    have ky1_1 := cell_regrown y1_1
    have y1_2 : w1.cell? ⟨w.heap.size + 1, 2, none⟩ = some (.string r.name) := T1.b2.cell 2
    have ky1_2 := cell_regrown y1_2
    have y1_3 : w1.cell? ⟨w.heap.size + 1, 3, none⟩ = some (.int .i64 r.length) := T1.b2.cell 3
    have ky1_3 := cell_regrown y1_3
    have y1_4 : w1.cell? ⟨w.heap.size + 1, 4, none⟩ = some (.int .i64 r.group) := T1.b2.cell 4
    have ky1_4 := cell_regrown y1_4
    have y1_5 : w1.cell? ⟨w.heap.size + 1, 5, none⟩ = some (.int .i64 r.row) := T1.b2.cell 5
    have ky1_5 := cell_regrown y1_5
    have y1_6 : w1.cell? ⟨w.heap.size + 1, 6, none⟩ = some (.slice ao6 r.rows.1 cap6) := T1.b2.cell 6
    have ky1_6 := cell_regrown y1_6
    have y1_7 : w1.cell? ⟨w.heap.size + 1, 7, none⟩ = some (.slice ao7 r.data.1 cap7) := T1.b2.cell 7
    have ky1_7 := cell_regrown y1_7
    have y1_8 : w1.cell? ⟨w.heap.size + 1, 8, none⟩ = some (.slice ao8 r.delta.1 cap8) := T1.b2.cell 8
    have ky1_8 := cell_regrown y1_8
    clear T1
    by_cases hok : 1 ≤ r.length ∧ r.length ≤ 3 * (s 2 * 4)
    · obtain rfl : c = 0 := by omega
      have HOK : Hid (1 ≤ r.length ∧ r.length ≤ 3 * (s 2 * 4)) := hok
      clear hc
      by_cases hd : 0 < r.data.1
      · have d1 : decide (0 < (r.data.1 : Int)) = true := by simp; omega
        obtain ⟨b0, h0⟩ : ∃ b, ((r.data.1 : Int) == r.length) = b := ⟨_, rfl⟩
        obtain ⟨b1, h1⟩ : ∃ b, ((r.rows.1 : Int) == 0) = b := ⟨_, rfl⟩
        have HE : Hid (ItemP s r ↔ (b0 = true ∧ b1 = true)) := by
          show ItemP s r ↔ _
          rw [← h0, ← h1]
          unfold ItemP
          have := HL.out
          have := HOK.out
          constructor
          · rintro (h | ⟨_, _, _, h | h⟩)
            · omega
            · simp; omega
            · omega
          · intro h
            simp at h
            exact .inr ⟨by omega, by omega, by omega, .inl ⟨hd, h.1, h.2⟩⟩
        have HD : Hid (0 < r.data.1) := hd
        have hst : b0 = false ∨ (b0 = true ∧ b1 = false) ∨ (b0 = true ∧ b1 = true) := by
          clear HE h0 h1
          cases b0 <;> simp
        clear hd hok
        rcases hst with rfl | ⟨rfl, rfl⟩ | ⟨rfl, rfl⟩
        all_goals
          go_wp2
          go_ret
          first
            | exact boolNo rfl (fun h => by have := HE.out.1 h; simp at this) HT1.out.bel
            | exact boolYes rfl (HE.out.2 (by simp)) HT1.out.bel
      · have d1 : decide (0 < (r.data.1 : Int)) = false := by simp; omega
        have hd0 : r.data.1 = 0 := by omega
        obtain ⟨S, hS⟩ : ∃ S, S = (r.length + s 2 * 4 - 1) / (s 2 * 4) := ⟨_, rfl⟩
        have HSV : Hid (S = (r.length + s 2 * 4 - 1) / (s 2 * 4)) := hS
        have hlb : r.length ≤ 1000000000 := by omega
        have cP := q_below (W := w1) (fun w' _ => l4Parts_any s (by omega) (by omega) r.length (by omega) (by omega) w')
        unfold shapeV at cP
        rw [← hS] at cP
        obtain ⟨t2, h2⟩ := exB (ApartP r.rows.1 r.rows.2 (s 4 - 1))
        have cQ := q_below (W := w1) (fun w' hw' => det_b (l5Apart_any _ r.rows.1 r.rows.2 hi (s 4 - 1) w' ((H6.out.below HT1.out.bel hhi).below hw' (Nat.le_trans hhi HT1.out.bel.size)) HCP.out (Nat.le_trans hhi (Nat.le_trans HT1.out.bel.size hw'.size))) h2)
        obtain ⟨b0, h0⟩ : ∃ b, ((r.rows.1 : Int) == S) = b := ⟨_, rfl⟩
        have HE : Hid (ItemP s r ↔ (b0 = true ∧ t2 = true)) := by
          show ItemP s r ↔ _
          rw [← h0, h2, hS]
          unfold ItemP
          have := HL.out
          have := HOK.out
          constructor
          · rintro (h | ⟨_, _, _, h | h⟩)
            · omega
            · omega
            · exact ⟨by simpa using h.2.1, h.2.2⟩
          · intro h
            exact .inr ⟨by omega, by omega, by omega, .inr ⟨hd0, by simpa using h.1, h.2⟩⟩
        have HD : Hid (¬ 0 < r.data.1) := hd
        have hst : b0 = false ∨ (b0 = true ∧ t2 = false) ∨ (b0 = true ∧ t2 = true) := by
          clear HE h0 h2 cQ
          cases b0 <;> simp
        have hw4 : IntKind.i64.wrap (s 4 - 1) = s 4 - 1 := by rw [IntKind.wrap_i64]; omega
        clear hd hok hS h2 hd0
        go_wp2
        rcases hst with rfl | ⟨rfl, rfl⟩ | ⟨rfl, rfl⟩
        all_goals
          refine WQ.region (by kernel_rfl) (by kernel_rfl) ?_
          repeat (first | (apply WQ.skip; (case hw => rfl); intro K hK; go_simp; apply hK; clear hK K) | (apply WQ.want; (case hw => rfl); intro K hK; go_simp; first | (apply hK; clear hK K) | (apply Exists.intro; apply And.intro; (case left => intro p; (first | (go_at_call 123; exact cP _ _) | (go_at_call 53; exact cQ _ _))); apply hK; clear hK K)))
          refine WQ.nil ?_
          intro w2 hw2
          have HB2 : Hid (Below w.heap.size w w2) := (HT1.out.call (below_rg hw2)).bel
          clear hw2
          go_wp2
          go_ret
          first
            | exact boolNo rfl (fun h => by have := HE.out.1 h; simp at this) HB2.out
            | exact boolYes rfl (HE.out.2 (by simp)) HB2.out
    · have hc0 : (c != 0) = true := by
        have : c ≠ 0 := by omega
        simp [this]
      have HNO : Hid (¬ ItemP s r) := fun h => by
        have := HL.out
        unfold ItemP at h
        omega
      clear hc hok
      go_wp2
      go_ret
      exact boolNo rfl HNO.out HT1.out.bel
end Go.Proofs.YtcdnhhdknkhnkaaGreat
namespace Go.Proofs.YtcdnhhdknkhnkaaGreat
open Go.RowKit F256
def RecPost (s : Nat → Int) (r : RecD) (w : World) (e : Ending) (w' : World) : Prop := ∃ x, e = .returned (.int .i64 x) ∧ RecAns s r x ∧ Below w.heap.size w w'
theorem recP {s : Nat → Int} {r : RecD} {w : World} {e : Ending} {w' : World} {x : Int} (he : e = .returned (.int .i64 x)) (h : RecAns s r x) (hb : Below w.heap.size w w') : RecPost s r w e w' := ⟨x, he, h, hb⟩
theorem exBT {P : Prop} (h : P) : true = true ↔ P := ⟨fun _ => h, fun _ => rfl⟩
theorem exBF {P : Prop} (h : ¬ P) : false = true ↔ P := ⟨fun h => (by cases h), fun hh => absurd hh h⟩
set_option maxHeartbeats 16000000 in
set_option maxRecDepth 20000 in
theorem specRec_any (s : Nat → Int) (r : RecD) (cs : List Value) (hi : Nat) (w : World) (h : layRec.rd w hi r cs) (hhi : hi ≤ w.heap.size) (hnm : r.name.size ≤ 1048576) :
    Calls Tryz.prog 55 #[shapeV s, .agg cs.toArray] w (RecPost s r w) := by
  obtain ⟨kind, seq, name, length, group, row, rows, data, delta⟩ := r
  obtain ⟨ao6, cap6, ao7, cap7, ao8, cap8, rfl, g6, g7, g8, k0, k1, k2, k3, k4, k5⟩ := Rec_rd h
  have HRD : Hid (layRec.rd w hi ⟨kind, seq, name, length, group, row, rows, data, delta⟩ [.int .i64 kind, .int .i64 seq, .string name, .int .i64 length, .int .i64 group, .int .i64 row, .slice ao6 rows.1 cap6, .slice ao7 data.1 cap7, .slice ao8 delta.1 cap8]) := h
  obtain ⟨v6, e6, ⟨h6, hcp6⟩, _⟩ := g6
  cases e6
  have H6 : Hid (RdI w hi (.slice ao6 rows.1 cap6) rows.1 rows.2) := h6
  have hm6 : rows.1 ≤ maxLen := h6.mx
  obtain ⟨v7, e7, ⟨_, _, e7', hm7, _⟩, _⟩ := g7
  cases e7
  cases e7'
  obtain ⟨v8, e8, ⟨_, _, e8', hm8, _⟩, _⟩ := g8
  cases e8
  cases e8'
  unfold maxLen at hm6 hm7 hm8
  simp only at k0 k1 k2 k3 k4 k5 hm6 hm7 hm8 hnm
  clear h h6 hcp6
  have T0 := two_newb w #[.int .i64 (s 0), .int .i64 (s 1), .int .i64 (s 2), .int .i64 (s 3), .int .i64 (s 4), .int .i64 (s 5), .int .i64 (s 6), .int .i64 (s 7), .int .i64 (s 8)] #[.int .i64 kind, .int .i64 seq, .string name, .int .i64 length, .int .i64 group, .int .i64 row, .slice ao6 rows.1 cap6, .slice ao7 data.1 cap7, .slice ao8 delta.1 cap8] 34 92
  have CSh := fun w' => specShape_any s w'
  unfold shapeV at CSh ⊢
  go_enter Tryz.func55, Tryz.ntmps55
  go_wp2_with fail
  refine (CSh _).mono ?_
  rintro e w1 ⟨x, rfl, hx, b1⟩
  have T1 : Two w w1 #[.int .i64 (s 0), .int .i64 (s 1), .int .i64 (s 2), .int .i64 (s 3), .int .i64 (s 4), .int .i64 (s 5), .int .i64 (s 6), .int .i64 (s 7), .int .i64 (s 8)] #[.int .i64 kind, .int .i64 seq, .string name, .int .i64 length, .int .i64 group, .int .i64 row, .slice ao6 rows.1 cap6, .slice ao7 data.1 cap7, .slice ao8 delta.1 cap8] 34 92 := T0.call b1
  have HT1 : Hid (Two w w1 #[.int .i64 (s 0), .int .i64 (s 1), .int .i64 (s 2), .int .i64 (s 3), .int .i64 (s 4), .int .i64 (s 5), .int .i64 (s 6), .int .i64 (s 7), .int .i64 (s 8)] #[.int .i64 kind, .int .i64 seq, .string name, .int .i64 length, .int .i64 group, .int .i64 row, .slice ao6 rows.1 cap6, .slice ao7 data.1 cap7, .slice ao8 delta.1 cap8] 34 92) := T1
  have z1 : w.heap.size + 1 < w1.heap.size := T1.b2.lt
  clear b1 T0 CSh
  have x1_0 : w1.cell? ⟨w.heap.size, 0, none⟩ = some (.int .i64 (s 0)) := T1.b1.cell 0
  have x1_1 : w1.cell? ⟨w.heap.size, 1, none⟩ = some (.int .i64 (s 1)) := T1.b1.cell 1
  have x1_2 : w1.cell? ⟨w.heap.size, 2, none⟩ = some (.int .i64 (s 2)) := T1.b1.cell 2
  have x1_3 : w1.cell? ⟨w.heap.size, 3, none⟩ = some (.int .i64 (s 3)) := T1.b1.cell 3
  have x1_4 : w1.cell? ⟨w.heap.size, 4, none⟩ = some (.int .i64 (s 4)) := T1.b1.cell 4
  have x1_5 : w1.cell? ⟨w.heap.size, 5, none⟩ = some (.int .i64 (s 5)) := T1.b1.cell 5
  have x1_6 : w1.cell? ⟨w.heap.size, 6, none⟩ = some (.int .i64 (s 6)) := T1.b1.cell 6
  have x1_7 : w1.cell? ⟨w.heap.size, 7, none⟩ = some (.int .i64 (s 7)) := T1.b1.cell 7
  have x1_8 : w1.cell? ⟨w.heap.size, 8, none⟩ = some (.int .i64 (s 8)) := T1.b1.cell 8
  have y1_0 : w1.cell? ⟨w.heap.size + 1, 0, none⟩ = some (.int .i64 kind) := T1.b2.cell 0
  have y1_1 : w1.cell? ⟨w.heap.size + 1, 1, none⟩ = some (.int .i64 seq) := T1.b2.cell 1
  have y1_2 : w1.cell? ⟨w.heap.size + 1, 2, none⟩ = some (.string name) := T1.b2.cell 2
  have y1_3 : w1.cell? ⟨w.heap.size + 1, 3, none⟩ = some (.int .i64 length) := T1.b2.cell 3
  have y1_4 : w1.cell? ⟨w.heap.size + 1, 4, none⟩ = some (.int .i64 group) := T1.b2.cell 4
  have y1_5 : w1.cell? ⟨w.heap.size + 1, 5, none⟩ = some (.int .i64 row) := T1.b2.cell 5
  have y1_6 : w1.cell? ⟨w.heap.size + 1, 6, none⟩ = some (.slice ao6 rows.1 cap6) := T1.b2.cell 6
  have y1_7 : w1.cell? ⟨w.heap.size + 1, 7, none⟩ = some (.slice ao7 data.1 cap7) := T1.b2.cell 7
  have y1_8 : w1.cell? ⟨w.heap.size + 1, 8, none⟩ = some (.slice ao8 delta.1 cap8) := T1.b2.cell 8
  clear T1
  rcases hx with ⟨rfl, hno⟩ | ⟨rfl, hok⟩
  · go_wp2
    go_ret
    exact recP rfl (Stair.fall hno) HT1.out.bel
  have HOK : Hid (OkShape s) := hok
  have hsb : 1 ≤ s 0 ∧ s 0 ≤ 4 ∧ 0 ≤ s 1 ∧ s 1 ≤ 2 ∧ 1 ≤ s 2 ∧ s 2 ≤ 3 ∧ 1 ≤ s 4 ∧ s 4 ≤ 6 := by
    obtain ⟨h1, h2, h3, _⟩ := hok
    unfold Shp3 at h1
    unfold Shp at h2
    omega
  clear hok
  by_cases hk : InP kind 1 4
  · go_wp2_with fail
    refine (l1In_b (t := true) (exBT hk) _).mono ?_
    rintro e w' ⟨rfl, hw'⟩
    obtain rfl := hw'.symm
    by_cases hq : InP seq 1 1000000000
    · go_wp2_with fail
      refine (l1In_b (t := true) (exBT hq) _).mono ?_
      rintro e w' ⟨rfl, hw'⟩
      obtain rfl := hw'.symm
      have HK : Hid (InP kind 1 4) := hk
      have HQ : Hid (InP seq 1 1000000000) := hq
      go_upto_region 9 with fail
      have bA : Below w1.heap.size w1 (w1.alloc (.cells #[.int .i64 kind, .int .i64 seq, .string name, .int .i64 length, .int .i64 group, .int .i64 row, .slice ao6 rows.1 cap6, .slice ao7 data.1 cap7, .slice ao8 delta.1 cap8] 92)) := (Below.refl _ _).alloc (Nat.le_refl _) _
      have T2 : Two w (w1.alloc (.cells #[.int .i64 kind, .int .i64 seq, .string name, .int .i64 length, .int .i64 group, .int .i64 row, .slice ao6 rows.1 cap6, .slice ao7 data.1 cap7, .slice ao8 delta.1 cap8] 92)) #[.int .i64 (s 0), .int .i64 (s 1), .int .i64 (s 2), .int .i64 (s 3), .int .i64 (s 4), .int .i64 (s 5), .int .i64 (s 6), .int .i64 (s 7), .int .i64 (s 8)] #[.int .i64 kind, .int .i64 seq, .string name, .int .i64 length, .int .i64 group, .int .i64 row, .slice ao6 rows.1 cap6, .slice ao7 data.1 cap7, .slice ao8 delta.1 cap8] 34 92 := HT1.out.call bA
      have X2 : Box (w1.alloc (.cells #[.int .i64 kind, .int .i64 seq, .string name, .int .i64 length, .int .i64 group, .int .i64 row, .slice ao6 rows.1 cap6, .slice ao7 data.1 cap7, .slice ao8 delta.1 cap8] 92)) w1.heap.size #[.int .i64 kind, .int .i64 seq, .string name, .int .i64 length, .int .i64 group, .int .i64 row, .slice ao6 rows.1 cap6, .slice ao7 data.1 cap7, .slice ao8 delta.1 cap8] 92 := box_new _ _ _
      obtain ⟨W2, hW2⟩ : ∃ W2, W2 = w1.alloc (.cells #[.int .i64 kind, .int .i64 seq, .string name, .int .i64 length, .int .i64 group, .int .i64 row, .slice ao6 rows.1 cap6, .slice ao7 data.1 cap7, .slice ao8 delta.1 cap8] 92) := ⟨_, rfl⟩
      rw [← hW2] at T2 X2 ⊢
      have HT2 : Hid (Two w W2 #[.int .i64 (s 0), .int .i64 (s 1), .int .i64 (s 2), .int .i64 (s 3), .int .i64 (s 4), .int .i64 (s 5), .int .i64 (s 6), .int .i64 (s 7), .int .i64 (s 8)] #[.int .i64 kind, .int .i64 seq, .string name, .int .i64 length, .int .i64 group, .int .i64 row, .slice ao6 rows.1 cap6, .slice ao7 data.1 cap7, .slice ao8 delta.1 cap8] 34 92) := T2
      have HX2 : Hid (Box W2 w1.heap.size #[.int .i64 kind, .int .i64 seq, .string name, .int .i64 length, .int .i64 group, .int .i64 row, .slice ao6 rows.1 cap6, .slice ao7 data.1 cap7, .slice ao8 delta.1 cap8] 92) := X2
      clear bA hW2 x1_0 y1_0 x1_1 y1_1 x1_2 y1_2 x1_3 y1_3 x1_4 y1_4 x1_5 y1_5 x1_6 y1_6 x1_7 y1_7 x1_8 y1_8
      have x2_0 : W2.cell? ⟨w.heap.size, 0, none⟩ = some (.int .i64 (s 0)) := T2.b1.cell 0
      have kx2_0 := cell_regrown x2_0
      have x2_1 : W2.cell? ⟨w.heap.size, 1, none⟩ = some (.int .i64 (s 1)) := T2.b1.cell 1
      have kx2_1 := cell_regrown x2_1
      have x2_2 : W2.cell? ⟨w.heap.size, 2, none⟩ = some (.int .i64 (s 2)) := T2.b1.cell 2
      have kx2_2 := cell_regrown x2_2
      have x2_3 : W2.cell? ⟨w.heap.size, 3, none⟩ = some (.int .i64 (s 3)) := T2.b1.cell 3
      have kx2_3 := cell_regrown x2_3
      have x2_4 : W2.cell? ⟨w.heap.size, 4, none⟩ = some (.int .i64 (s 4)) := T2.b1.cell 4
      have kx2_4 := cell_regrown x2_4
      have x2_5 : W2.cell? ⟨w.heap.size, 5, none⟩ = some (.int .i64 (s 5)) := T2.b1.cell 5
      have kx2_5 := cell_regrown x2_5
      have x2_6 : W2.cell? ⟨w.heap.size, 6, none⟩ = some (.int .i64 (s 6)) := T2.b1.cell 6
      have kx2_6 := cell_regrown x2_6
      have x2_7 : W2.cell? ⟨w.heap.size, 7, none⟩ = some (.int .i64 (s 7)) := T2.b1.cell 7
      have kx2_7 := cell_regrown x2_7
      have x2_8 : W2.cell? ⟨w.heap.size, 8, none⟩ = some (.int .i64 (s 8)) := T2.b1.cell 8
      have kx2_8 := cell_regrown x2_8
      have y2_0 : W2.cell? ⟨w.heap.size + 1, 0, none⟩ = some (.int .i64 kind) := T2.b2.cell 0
      have ky2_0 := cell_regrown y2_0
      have y2_1 : W2.cell? ⟨w.heap.size + 1, 1, none⟩ = some (.int .i64 seq) := T2.b2.cell 1
      have ky2_1 := cell_regrown y2_1
      have y2_2 : W2.cell? ⟨w.heap.size + 1, 2, none⟩ = some (.string name) := T2.b2.cell 2
      have ky2_2 := cell_regrown y2_2
      have y2_3 : W2.cell? ⟨w.heap.size + 1, 3, none⟩ = some (.int .i64 length) := T2.b2.cell 3
      have ky2_3 := cell_regrown y2_3
      have y2_4 : W2.cell? ⟨w.heap.size + 1, 4, none⟩ = some (.int .i64 group) := T2.b2.cell 4
      have ky2_4 := cell_regrown y2_4
      have y2_5 : W2.cell? ⟨w.heap.size + 1, 5, none⟩ = some (.int .i64 row) := T2.b2.cell 5
      have ky2_5 := cell_regrown y2_5
      have y2_6 : W2.cell? ⟨w.heap.size + 1, 6, none⟩ = some (.slice ao6 rows.1 cap6) := T2.b2.cell 6
      have ky2_6 := cell_regrown y2_6
      have y2_7 : W2.cell? ⟨w.heap.size + 1, 7, none⟩ = some (.slice ao7 data.1 cap7) := T2.b2.cell 7
      have ky2_7 := cell_regrown y2_7
      have y2_8 : W2.cell? ⟨w.heap.size + 1, 8, none⟩ = some (.slice ao8 delta.1 cap8) := T2.b2.cell 8
      have ky2_8 := cell_regrown y2_8
      have z2_0 : W2.cell? ⟨w1.heap.size, 0, none⟩ = some (.int .i64 kind) := X2.cell 0
      have f2_0 : W2.frozen? ⟨w1.heap.size, 0, none⟩ = false := X2.frozen 0
      have z2_1 : W2.cell? ⟨w1.heap.size, 1, none⟩ = some (.int .i64 seq) := X2.cell 1
      have f2_1 : W2.frozen? ⟨w1.heap.size, 1, none⟩ = false := X2.frozen 1
      have z2_2 : W2.cell? ⟨w1.heap.size, 2, none⟩ = some (.string name) := X2.cell 2
      have f2_2 : W2.frozen? ⟨w1.heap.size, 2, none⟩ = false := X2.frozen 2
      have z2_3 : W2.cell? ⟨w1.heap.size, 3, none⟩ = some (.int .i64 length) := X2.cell 3
      have f2_3 : W2.frozen? ⟨w1.heap.size, 3, none⟩ = false := X2.frozen 3
      have z2_4 : W2.cell? ⟨w1.heap.size, 4, none⟩ = some (.int .i64 group) := X2.cell 4
      have f2_4 : W2.frozen? ⟨w1.heap.size, 4, none⟩ = false := X2.frozen 4
      have z2_5 : W2.cell? ⟨w1.heap.size, 5, none⟩ = some (.int .i64 row) := X2.cell 5
      have f2_5 : W2.frozen? ⟨w1.heap.size, 5, none⟩ = false := X2.frozen 5
      have z2_6 : W2.cell? ⟨w1.heap.size, 6, none⟩ = some (.slice ao6 rows.1 cap6) := X2.cell 6
      have f2_6 : W2.frozen? ⟨w1.heap.size, 6, none⟩ = false := X2.frozen 6
      have z2_7 : W2.cell? ⟨w1.heap.size, 7, none⟩ = some (.slice ao7 data.1 cap7) := X2.cell 7
      have f2_7 : W2.frozen? ⟨w1.heap.size, 7, none⟩ = false := X2.frozen 7
      have z2_8 : W2.cell? ⟨w1.heap.size, 8, none⟩ = some (.slice ao8 delta.1 cap8) := X2.cell 8
      have f2_8 : W2.frozen? ⟨w1.heap.size, 8, none⟩ = false := X2.frozen 8
      clear T2 X2
      have hk4 : kind = 1 ∨ kind = 2 ∨ kind = 3 ∨ kind = 4 := by unfold InP at hk; omega
      have ws0 : IntKind.i64.wrap (s 0 - 1) = s 0 - 1 := by rw [IntKind.wrap_i64]; omega
      have ws4 : IntKind.i64.wrap (s 4 - 1) = s 4 - 1 := by rw [IntKind.wrap_i64]; omega
      have wsA : IntKind.i64.wrap (s 0 + s 1 - 1) = s 0 + s 1 - 1 := by rw [IntKind.wrap_i64]; omega
      clear hk hq
      rcases hk4 with rfl | rfl | rfl | rfl
      · go_wp2_with fail
        refine (specName_any name hnm _).mono ?_
        rintro e w' ⟨x, rfl, hx, hw'⟩
        obtain rfl := hw'.symm
        rcases hx with ⟨rfl, hno⟩ | ⟨rfl, hyes⟩
        · go_wp2
          go_ret
          exact recP rfl (Stair.pass HOK.out (Stair.pass HK.out (Stair.pass HQ.out (Stair.fall (fun h => hno (h rfl)))))) HT2.out.bel
        · have HN : Hid (NamedP ⟨1, seq, name, length, group, row, rows, data, delta⟩) := fun _ => hyes
          clear hyes
          obtain ⟨t3, h3⟩ := exB (ItemP s ⟨1, seq, name, length, group, row, rows, data, delta⟩)
          have CI := det_b (l5Item_any s HOK.out ⟨1, seq, name, length, group, row, rows, data, delta⟩ _ hi W2 (layRec.rd_below HRD.out HT2.out.bel hhi) (Nat.le_trans hhi HT2.out.bel.size)) h3
          unfold shapeV at CI
          go_wp2_with fail
          refine CI.mono ?_
          rintro e w3 ⟨rfl, b3⟩
          have X3 : Box w3 w1.heap.size #[.int .i64 1, .int .i64 seq, .string name, .int .i64 length, .int .i64 group, .int .i64 row, .slice ao6 rows.1 cap6, .slice ao7 data.1 cap7, .slice ao8 delta.1 cap8] 92 := HX2.out.call b3
          have HB3 : Hid (Below w.heap.size w w3) := (HT2.out.call b3).bel
          have z3_0 : w3.cell? ⟨w1.heap.size, 0, none⟩ = some (.int .i64 1) := X3.cell 0
          have f3_0 : w3.frozen? ⟨w1.heap.size, 0, none⟩ = false := X3.frozen 0
          have z3_1 : w3.cell? ⟨w1.heap.size, 1, none⟩ = some (.int .i64 seq) := X3.cell 1
          have f3_1 : w3.frozen? ⟨w1.heap.size, 1, none⟩ = false := X3.frozen 1
          have z3_2 : w3.cell? ⟨w1.heap.size, 2, none⟩ = some (.string name) := X3.cell 2
          have f3_2 : w3.frozen? ⟨w1.heap.size, 2, none⟩ = false := X3.frozen 2
          have z3_3 : w3.cell? ⟨w1.heap.size, 3, none⟩ = some (.int .i64 length) := X3.cell 3
          have f3_3 : w3.frozen? ⟨w1.heap.size, 3, none⟩ = false := X3.frozen 3
          have z3_4 : w3.cell? ⟨w1.heap.size, 4, none⟩ = some (.int .i64 group) := X3.cell 4
          have f3_4 : w3.frozen? ⟨w1.heap.size, 4, none⟩ = false := X3.frozen 4
          have z3_5 : w3.cell? ⟨w1.heap.size, 5, none⟩ = some (.int .i64 row) := X3.cell 5
          have f3_5 : w3.frozen? ⟨w1.heap.size, 5, none⟩ = false := X3.frozen 5
          have z3_6 : w3.cell? ⟨w1.heap.size, 6, none⟩ = some (.slice ao6 rows.1 cap6) := X3.cell 6
          have f3_6 : w3.frozen? ⟨w1.heap.size, 6, none⟩ = false := X3.frozen 6
          have z3_7 : w3.cell? ⟨w1.heap.size, 7, none⟩ = some (.slice ao7 data.1 cap7) := X3.cell 7
          have f3_7 : w3.frozen? ⟨w1.heap.size, 7, none⟩ = false := X3.frozen 7
          have z3_8 : w3.cell? ⟨w1.heap.size, 8, none⟩ = some (.slice ao8 delta.1 cap8) := X3.cell 8
          have f3_8 : w3.frozen? ⟨w1.heap.size, 8, none⟩ = false := X3.frozen 8
          clear X3 b3
          clear x2_0 kx2_0 y2_0 ky2_0 z2_0 f2_0 x2_1 kx2_1 y2_1 ky2_1 z2_1 f2_1 x2_2 kx2_2 y2_2 ky2_2 z2_2 f2_2 x2_3 kx2_3 y2_3 ky2_3 z2_3 f2_3 x2_4 kx2_4 y2_4 ky2_4 z2_4 f2_4 x2_5 kx2_5 y2_5 ky2_5 z2_5 f2_5 x2_6 kx2_6 y2_6 ky2_6 z2_6 f2_6 x2_7 kx2_7 y2_7 ky2_7 z2_7 f2_7 x2_8 kx2_8 y2_8 ky2_8 z2_8 f2_8 CI
          have H3 : Hid (t3 = true ↔ ItemP s ⟨1, seq, name, length, group, row, rows, data, delta⟩) := h3
          clear h3
          cases t3 with
          | false =>
            go_wp2
            go_ret
            exact recP rfl (Stair.pass HOK.out (Stair.pass HK.out (Stair.pass HQ.out (Stair.pass HN.out (Stair.fall (fun h => by
              have : ItemP s ⟨1, seq, name, length, group, row, rows, data, delta⟩ := by
                unfold KindP at h
                simpa using h
              have := H3.out.2 this
              simp at this)))))) HB3.out
          | true =>
            have HKP : Hid (KindP s ⟨1, seq, name, length, group, row, rows, data, delta⟩) := .inl ⟨rfl, H3.out.1 (by simp)⟩
            go_wp2_with fail
            refine (l5Empty_any _ _ _ _ _ _ _ _ _ _ _ _ _ _ _ _).mono ?_
            rintro e w9 ⟨t9, rfl, ht9, b9⟩
            have HB9 : Hid (Below w.heap.size w w9) := by
              show Below w.heap.size w w9
              refine Below.trans ?_ (b9.mono ?_)
              · repeat (refine below_set ?_ (by omega))
                exact HB3.out
              · simp
                exact HB3.out.size
            clear b9
            have HT9 : Hid (t9 = true ↔ BlankP ⟨1, seq, name, length, group, row, rows, data, delta⟩) := by
              show t9 = true ↔ BlankP ⟨1, seq, name, length, group, row, rows, data, delta⟩
              rw [ht9]
              unfold EmptyQ BlankP noName
              simp [and_assoc]
              try (intros; rfl)
            clear ht9
            cases t9 with
            | false =>
              go_wp2
              go_ret
              exact recP rfl (Stair.pass HOK.out (Stair.pass HK.out (Stair.pass HQ.out (Stair.pass HN.out (Stair.pass HKP.out (Stair.fall (fun h => by have := HT9.out.2 h; simp at this))))))) HB9.out
            | true =>
              go_wp2
              go_ret
              exact recP rfl (Stair.pass HOK.out (Stair.pass HK.out (Stair.pass HQ.out (Stair.pass HN.out (Stair.pass HKP.out (Stair.pass (HT9.out.1 (by simp)) (Stair.last rfl))))))) HB9.out
      · have HN : Hid (NamedP ⟨2, seq, name, length, group, row, rows, data, delta⟩) := fun h => by simp at h
        obtain ⟨t1, h1⟩ := exB (InP group 0 (s 0 - 1))
        obtain ⟨t2, h2⟩ := exB (InP row 0 (s 4 - 1))
        obtain ⟨b3', h3⟩ : ∃ b, ((data.1 : Int) != s 2 * 4) = b := ⟨_, rfl⟩
        obtain ⟨b4', h4⟩ : ∃ b, ((delta.1 : Int) != s 2 * 4) = b := ⟨_, rfl⟩
        have cG := q_same (W := W2) (fun w' => l1In_b h1 w')
        have cR := q_same (W := W2) (fun w' => l1In_b h2 w')
        have cW := q_below (W := W2) (fun w' _ => l4Wide_any s (by omega) (by omega) w')
        unfold shapeV at cW
        have HE : Hid (KindP s ⟨2, seq, name, length, group, row, rows, data, delta⟩ ↔ (t1 = true ∧ t2 = true ∧ b3' = false ∧ b4' = false)) := by
          show KindP s ⟨2, seq, name, length, group, row, rows, data, delta⟩ ↔ _
          rw [h1, h2, ← h3, ← h4]
          unfold KindP MoveP
          simp
        have hst : (t1 = false) ∨ (t1 = true ∧ t2 = false) ∨ (t1 = true ∧ t2 = true ∧ b3' = true) ∨ (t1 = true ∧ t2 = true ∧ b3' = false ∧ b4' = true) ∨ (t1 = true ∧ t2 = true ∧ b3' = false ∧ b4' = false) := by
          clear HE h1 h2 h3 h4 cG cR
          cases t1 <;> simp
          cases t2 <;> simp
          cases b3' <;> simp
        clear h1 h2
        go_wp2
        rcases hst with rfl | ⟨rfl, rfl⟩ | ⟨rfl, rfl, rfl⟩ | ⟨rfl, rfl, rfl, rfl⟩ | ⟨rfl, rfl, rfl, rfl⟩
        all_goals
          refine WQ.region (by kernel_rfl) (by kernel_rfl) ?_
          repeat (first | (apply WQ.skip; (case hw => rfl); intro K hK; go_simp; apply hK; clear hK K) | (apply WQ.want; (case hw => rfl); intro K hK; go_simp; first | (apply hK; clear hK K) | (apply Exists.intro; apply And.intro; (case left => intro p; (first | (go_at_call_of 45 (Value.int .i64 group); exact cG _ _) | (go_at_call_of 45 (Value.int .i64 row); exact cR _ _) | (go_at_call 93; exact cW _ _))); apply hK; clear hK K)))
          refine WQ.nil ?_
          intro w3 hw3
          have b3 := below_rg hw3
          have X3 : Box w3 w1.heap.size #[.int .i64 2, .int .i64 seq, .string name, .int .i64 length, .int .i64 group, .int .i64 row, .slice ao6 rows.1 cap6, .slice ao7 data.1 cap7, .slice ao8 delta.1 cap8] 92 := HX2.out.call b3
          have HB3 : Hid (Below w.heap.size w w3) := (HT2.out.call b3).bel
          have z3_0 : w3.cell? ⟨w1.heap.size, 0, none⟩ = some (.int .i64 2) := X3.cell 0
          have f3_0 : w3.frozen? ⟨w1.heap.size, 0, none⟩ = false := X3.frozen 0
          have z3_1 : w3.cell? ⟨w1.heap.size, 1, none⟩ = some (.int .i64 seq) := X3.cell 1
          have f3_1 : w3.frozen? ⟨w1.heap.size, 1, none⟩ = false := X3.frozen 1
          have z3_2 : w3.cell? ⟨w1.heap.size, 2, none⟩ = some (.string name) := X3.cell 2
          have f3_2 : w3.frozen? ⟨w1.heap.size, 2, none⟩ = false := X3.frozen 2
          have z3_3 : w3.cell? ⟨w1.heap.size, 3, none⟩ = some (.int .i64 length) := X3.cell 3
          have f3_3 : w3.frozen? ⟨w1.heap.size, 3, none⟩ = false := X3.frozen 3
          have z3_4 : w3.cell? ⟨w1.heap.size, 4, none⟩ = some (.int .i64 group) := X3.cell 4
          have f3_4 : w3.frozen? ⟨w1.heap.size, 4, none⟩ = false := X3.frozen 4
          have z3_5 : w3.cell? ⟨w1.heap.size, 5, none⟩ = some (.int .i64 row) := X3.cell 5
          have f3_5 : w3.frozen? ⟨w1.heap.size, 5, none⟩ = false := X3.frozen 5
          have z3_6 : w3.cell? ⟨w1.heap.size, 6, none⟩ = some (.slice ao6 rows.1 cap6) := X3.cell 6
          have f3_6 : w3.frozen? ⟨w1.heap.size, 6, none⟩ = false := X3.frozen 6
          have z3_7 : w3.cell? ⟨w1.heap.size, 7, none⟩ = some (.slice ao7 data.1 cap7) := X3.cell 7
          have f3_7 : w3.frozen? ⟨w1.heap.size, 7, none⟩ = false := X3.frozen 7
          have z3_8 : w3.cell? ⟨w1.heap.size, 8, none⟩ = some (.slice ao8 delta.1 cap8) := X3.cell 8
          have f3_8 : w3.frozen? ⟨w1.heap.size, 8, none⟩ = false := X3.frozen 8
          clear X3 b3
          clear hw3 x2_0 kx2_0 y2_0 ky2_0 z2_0 f2_0 x2_1 kx2_1 y2_1 ky2_1 z2_1 f2_1 x2_2 kx2_2 y2_2 ky2_2 z2_2 f2_2 x2_3 kx2_3 y2_3 ky2_3 z2_3 f2_3 x2_4 kx2_4 y2_4 ky2_4 z2_4 f2_4 x2_5 kx2_5 y2_5 ky2_5 z2_5 f2_5 x2_6 kx2_6 y2_6 ky2_6 z2_6 f2_6 x2_7 kx2_7 y2_7 ky2_7 z2_7 f2_7 x2_8 kx2_8 y2_8 ky2_8 z2_8 f2_8
        · go_wp2
          go_ret
          exact recP rfl (Stair.pass HOK.out (Stair.pass HK.out (Stair.pass HQ.out (Stair.pass HN.out (Stair.fall (fun h => by have := HE.out.1 h; simp at this)))))) HB3.out
        · go_wp2
          go_ret
          exact recP rfl (Stair.pass HOK.out (Stair.pass HK.out (Stair.pass HQ.out (Stair.pass HN.out (Stair.fall (fun h => by have := HE.out.1 h; simp at this)))))) HB3.out
        · go_wp2
          go_ret
          exact recP rfl (Stair.pass HOK.out (Stair.pass HK.out (Stair.pass HQ.out (Stair.pass HN.out (Stair.fall (fun h => by have := HE.out.1 h; simp at this)))))) HB3.out
        · go_wp2
          go_ret
          exact recP rfl (Stair.pass HOK.out (Stair.pass HK.out (Stair.pass HQ.out (Stair.pass HN.out (Stair.fall (fun h => by have := HE.out.1 h; simp at this)))))) HB3.out
        · have HKP : Hid (KindP s ⟨2, seq, name, length, group, row, rows, data, delta⟩) := HE.out.2 (by simp)
          go_wp2_with fail
          refine (l5Empty_any _ _ _ _ _ _ _ _ _ _ _ _ _ _ _ _).mono ?_
          rintro e w9 ⟨t9, rfl, ht9, b9⟩
          have HB9 : Hid (Below w.heap.size w w9) := by
            show Below w.heap.size w w9
            refine Below.trans ?_ (b9.mono ?_)
            · repeat (refine below_set ?_ (by omega))
              exact HB3.out
            · simp
              exact HB3.out.size
          clear b9
          have HT9 : Hid (t9 = true ↔ BlankP ⟨2, seq, name, length, group, row, rows, data, delta⟩) := by
            show t9 = true ↔ BlankP ⟨2, seq, name, length, group, row, rows, data, delta⟩
            rw [ht9]
            unfold EmptyQ BlankP noName
            simp [and_assoc]
            try (intros; rfl)
          clear ht9
          cases t9 with
          | false =>
            go_wp2
            go_ret
            exact recP rfl (Stair.pass HOK.out (Stair.pass HK.out (Stair.pass HQ.out (Stair.pass HN.out (Stair.pass HKP.out (Stair.fall (fun h => by have := HT9.out.2 h; simp at this))))))) HB9.out
          | true =>
            go_wp2
            go_ret
            exact recP rfl (Stair.pass HOK.out (Stair.pass HK.out (Stair.pass HQ.out (Stair.pass HN.out (Stair.pass HKP.out (Stair.pass (HT9.out.1 (by simp)) (Stair.last rfl))))))) HB9.out
      · have HN : Hid (NamedP ⟨3, seq, name, length, group, row, rows, data, delta⟩) := fun h => by simp at h
        obtain ⟨t1, h1⟩ := exB (InP group 0 (s 0 + s 1 - 1))
        have cG := q_same (W := W2) (fun w' => l1In_b h1 w')
        have cA := q_below (W := W2) (fun w' _ => l5All_any s HOK.out w')
        unfold shapeV at cA
        have HE : Hid (KindP s ⟨3, seq, name, length, group, row, rows, data, delta⟩ ↔ (t1 = true)) := by
          show KindP s ⟨3, seq, name, length, group, row, rows, data, delta⟩ ↔ _
          rw [h1]
          unfold KindP DoneP
          simp
        have hst : (t1 = false) ∨ (t1 = true) := by
          clear HE h1 cG
          cases t1 <;> simp
        clear h1
        go_wp2
        rcases hst with rfl | rfl
        all_goals
          refine WQ.region (by kernel_rfl) (by kernel_rfl) ?_
          repeat (first | (apply WQ.skip; (case hw => rfl); intro K hK; go_simp; apply hK; clear hK K) | (apply WQ.want; (case hw => rfl); intro K hK; go_simp; first | (apply hK; clear hK K) | (apply Exists.intro; apply And.intro; (case left => intro p; (first | (go_at_call 45; exact cG _ _) | (go_at_call 54; exact cA _ _))); apply hK; clear hK K)))
          refine WQ.nil ?_
          intro w3 hw3
          have b3 := below_rg hw3
          have X3 : Box w3 w1.heap.size #[.int .i64 3, .int .i64 seq, .string name, .int .i64 length, .int .i64 group, .int .i64 row, .slice ao6 rows.1 cap6, .slice ao7 data.1 cap7, .slice ao8 delta.1 cap8] 92 := HX2.out.call b3
          have HB3 : Hid (Below w.heap.size w w3) := (HT2.out.call b3).bel
          have z3_0 : w3.cell? ⟨w1.heap.size, 0, none⟩ = some (.int .i64 3) := X3.cell 0
          have f3_0 : w3.frozen? ⟨w1.heap.size, 0, none⟩ = false := X3.frozen 0
          have z3_1 : w3.cell? ⟨w1.heap.size, 1, none⟩ = some (.int .i64 seq) := X3.cell 1
          have f3_1 : w3.frozen? ⟨w1.heap.size, 1, none⟩ = false := X3.frozen 1
          have z3_2 : w3.cell? ⟨w1.heap.size, 2, none⟩ = some (.string name) := X3.cell 2
          have f3_2 : w3.frozen? ⟨w1.heap.size, 2, none⟩ = false := X3.frozen 2
          have z3_3 : w3.cell? ⟨w1.heap.size, 3, none⟩ = some (.int .i64 length) := X3.cell 3
          have f3_3 : w3.frozen? ⟨w1.heap.size, 3, none⟩ = false := X3.frozen 3
          have z3_4 : w3.cell? ⟨w1.heap.size, 4, none⟩ = some (.int .i64 group) := X3.cell 4
          have f3_4 : w3.frozen? ⟨w1.heap.size, 4, none⟩ = false := X3.frozen 4
          have z3_5 : w3.cell? ⟨w1.heap.size, 5, none⟩ = some (.int .i64 row) := X3.cell 5
          have f3_5 : w3.frozen? ⟨w1.heap.size, 5, none⟩ = false := X3.frozen 5
          have z3_6 : w3.cell? ⟨w1.heap.size, 6, none⟩ = some (.slice ao6 rows.1 cap6) := X3.cell 6
          have f3_6 : w3.frozen? ⟨w1.heap.size, 6, none⟩ = false := X3.frozen 6
          have z3_7 : w3.cell? ⟨w1.heap.size, 7, none⟩ = some (.slice ao7 data.1 cap7) := X3.cell 7
          have f3_7 : w3.frozen? ⟨w1.heap.size, 7, none⟩ = false := X3.frozen 7
          have z3_8 : w3.cell? ⟨w1.heap.size, 8, none⟩ = some (.slice ao8 delta.1 cap8) := X3.cell 8
          have f3_8 : w3.frozen? ⟨w1.heap.size, 8, none⟩ = false := X3.frozen 8
          clear X3 b3
          clear hw3 x2_0 kx2_0 y2_0 ky2_0 z2_0 f2_0 x2_1 kx2_1 y2_1 ky2_1 z2_1 f2_1 x2_2 kx2_2 y2_2 ky2_2 z2_2 f2_2 x2_3 kx2_3 y2_3 ky2_3 z2_3 f2_3 x2_4 kx2_4 y2_4 ky2_4 z2_4 f2_4 x2_5 kx2_5 y2_5 ky2_5 z2_5 f2_5 x2_6 kx2_6 y2_6 ky2_6 z2_6 f2_6 x2_7 kx2_7 y2_7 ky2_7 z2_7 f2_7 x2_8 kx2_8 y2_8 ky2_8 z2_8 f2_8
        · go_wp2
          go_ret
          exact recP rfl (Stair.pass HOK.out (Stair.pass HK.out (Stair.pass HQ.out (Stair.pass HN.out (Stair.fall (fun h => by have := HE.out.1 h; simp at this)))))) HB3.out
        · have HKP : Hid (KindP s ⟨3, seq, name, length, group, row, rows, data, delta⟩) := HE.out.2 (by simp)
          go_wp2_with fail
          refine (l5Empty_any _ _ _ _ _ _ _ _ _ _ _ _ _ _ _ _).mono ?_
          rintro e w9 ⟨t9, rfl, ht9, b9⟩
          have HB9 : Hid (Below w.heap.size w w9) := by
            show Below w.heap.size w w9
            refine Below.trans ?_ (b9.mono ?_)
            · repeat (refine below_set ?_ (by omega))
              exact HB3.out
            · simp
              exact HB3.out.size
          clear b9
          have HT9 : Hid (t9 = true ↔ BlankP ⟨3, seq, name, length, group, row, rows, data, delta⟩) := by
            show t9 = true ↔ BlankP ⟨3, seq, name, length, group, row, rows, data, delta⟩
            rw [ht9]
            unfold EmptyQ BlankP noName
            simp [and_assoc]
            try (intros; rfl)
          clear ht9
          cases t9 with
          | false =>
            go_wp2
            go_ret
            exact recP rfl (Stair.pass HOK.out (Stair.pass HK.out (Stair.pass HQ.out (Stair.pass HN.out (Stair.pass HKP.out (Stair.fall (fun h => by have := HT9.out.2 h; simp at this))))))) HB9.out
          | true =>
            go_wp2
            go_ret
            exact recP rfl (Stair.pass HOK.out (Stair.pass HK.out (Stair.pass HQ.out (Stair.pass HN.out (Stair.pass HKP.out (Stair.pass (HT9.out.1 (by simp)) (Stair.last rfl))))))) HB9.out
      · have HN : Hid (NamedP ⟨4, seq, name, length, group, row, rows, data, delta⟩) := fun h => by simp at h
        obtain ⟨t1, h1⟩ := exB (InP group 0 (s 0 + s 1 - 1))
        obtain ⟨t2, h2⟩ := exB (InP row 0 (s 4 - 1))
        obtain ⟨t3, h3⟩ := exB (RiseP rows.1 rows.2 (s 0 + s 1 - 1))
        obtain ⟨b4', h4⟩ : ∃ b, ((data.1 : Int) != s 2 * 4) = b := ⟨_, rfl⟩
        obtain ⟨t5, h5⟩ := exB (WeightsP s ⟨4, seq, name, length, group, row, rows, data, delta⟩)
        have cG := q_same (W := W2) (fun w' => l1In_b h1 w')
        have cR := q_same (W := W2) (fun w' => l1In_b h2 w')
        have cA := q_below (W := W2) (fun w' _ => l5All_any s HOK.out w')
        have cW := q_below (W := W2) (fun w' _ => l4Wide_any s (by omega) (by omega) w')
        have cS := q_below (W := W2) (fun w' hw' => det_b (l2Rise_any _ rows.1 rows.2 hi (s 0 + s 1 - 1) w' ((H6.out.below HT2.out.bel hhi).below hw' (Nat.le_trans hhi HT2.out.bel.size))) h3)
        have cX : t1 = true → t3 = true → ∀ d os, Calls Tryz.prog 95 #[shapeV s, .agg #[.int .i64 4, .int .i64 seq, .string name, .int .i64 length, .int .i64 group, .int .i64 row, .slice ao6 rows.1 cap6, .slice ao7 data.1 cap7, .slice ao8 delta.1 cap8]] (Go.Sort.grow (redrawn W2 d) os) fun e w'' => e = .returned (.bool t5) ∧ ∃ p : Regrown, w'' = Go.Sort.grow (redrawn W2 p.d) p.os := fun e1 e3 => q_below (W := W2) (fun w' hw' => det_b (l5Weights_any s HOK.out ⟨4, seq, name, length, group, row, rows, data, delta⟩ _ hi w' (layRec.rd_below (layRec.rd_below HRD.out HT2.out.bel hhi) hw' (Nat.le_trans hhi HT2.out.bel.size)) (Nat.le_trans hhi (Nat.le_trans HT2.out.bel.size hw'.size)) (h1.1 e1) (h3.1 e3)) h5)
        unfold shapeV at cW cA cX
        have HE : Hid (KindP s ⟨4, seq, name, length, group, row, rows, data, delta⟩ ↔ (t1 = true ∧ t2 = true ∧ t3 = true ∧ b4' = false ∧ t5 = true)) := by
          show KindP s ⟨4, seq, name, length, group, row, rows, data, delta⟩ ↔ _
          rw [h1, h2, h3, ← h4, h5]
          unfold KindP ShareP
          simp
        have hst : (t1 = false) ∨ (t1 = true ∧ t2 = false) ∨ (t1 = true ∧ t2 = true ∧ t3 = false) ∨ (t1 = true ∧ t2 = true ∧ t3 = true ∧ b4' = true) ∨ (t1 = true ∧ t2 = true ∧ t3 = true ∧ b4' = false ∧ t5 = false) ∨ (t1 = true ∧ t2 = true ∧ t3 = true ∧ b4' = false ∧ t5 = true) := by
          clear HE h1 h2 h3 h4 h5 cG cR cS cX
          cases t1 <;> simp
          cases t2 <;> simp
          cases t3 <;> simp
          cases b4' <;> simp
        clear h1 h2 h3 h5
        go_wp2
        rcases hst with rfl | ⟨rfl, rfl⟩ | ⟨rfl, rfl, rfl⟩ | ⟨rfl, rfl, rfl, rfl⟩ | ⟨rfl, rfl, rfl, rfl, rfl⟩ | ⟨rfl, rfl, rfl, rfl, rfl⟩
        all_goals
          refine WQ.region (by kernel_rfl) (by kernel_rfl) ?_
          repeat (first | (apply WQ.skip; (case hw => rfl); intro K hK; go_simp; apply hK; clear hK K) | (apply WQ.want; (case hw => rfl); intro K hK; go_simp; first | (apply hK; clear hK K) | (apply Exists.intro; apply And.intro; (case left => intro p; (first | (go_at_call_of 45 (Value.int .i64 group); exact cG _ _) | (go_at_call_of 45 (Value.int .i64 row); exact cR _ _) | (go_at_call 93; exact cW _ _) | (go_at_call 54; exact cA _ _) | (go_at_call 94; exact cS _ _) | (go_at_call 95; exact cX rfl rfl _ _))); apply hK; clear hK K)))
          refine WQ.nil ?_
          intro w3 hw3
          have b3 := below_rg hw3
          have X3 : Box w3 w1.heap.size #[.int .i64 4, .int .i64 seq, .string name, .int .i64 length, .int .i64 group, .int .i64 row, .slice ao6 rows.1 cap6, .slice ao7 data.1 cap7, .slice ao8 delta.1 cap8] 92 := HX2.out.call b3
          have HB3 : Hid (Below w.heap.size w w3) := (HT2.out.call b3).bel
          have z3_0 : w3.cell? ⟨w1.heap.size, 0, none⟩ = some (.int .i64 4) := X3.cell 0
          have f3_0 : w3.frozen? ⟨w1.heap.size, 0, none⟩ = false := X3.frozen 0
          have z3_1 : w3.cell? ⟨w1.heap.size, 1, none⟩ = some (.int .i64 seq) := X3.cell 1
          have f3_1 : w3.frozen? ⟨w1.heap.size, 1, none⟩ = false := X3.frozen 1
          have z3_2 : w3.cell? ⟨w1.heap.size, 2, none⟩ = some (.string name) := X3.cell 2
          have f3_2 : w3.frozen? ⟨w1.heap.size, 2, none⟩ = false := X3.frozen 2
          have z3_3 : w3.cell? ⟨w1.heap.size, 3, none⟩ = some (.int .i64 length) := X3.cell 3
          have f3_3 : w3.frozen? ⟨w1.heap.size, 3, none⟩ = false := X3.frozen 3
          have z3_4 : w3.cell? ⟨w1.heap.size, 4, none⟩ = some (.int .i64 group) := X3.cell 4
          have f3_4 : w3.frozen? ⟨w1.heap.size, 4, none⟩ = false := X3.frozen 4
          have z3_5 : w3.cell? ⟨w1.heap.size, 5, none⟩ = some (.int .i64 row) := X3.cell 5
          have f3_5 : w3.frozen? ⟨w1.heap.size, 5, none⟩ = false := X3.frozen 5
          have z3_6 : w3.cell? ⟨w1.heap.size, 6, none⟩ = some (.slice ao6 rows.1 cap6) := X3.cell 6
          have f3_6 : w3.frozen? ⟨w1.heap.size, 6, none⟩ = false := X3.frozen 6
          have z3_7 : w3.cell? ⟨w1.heap.size, 7, none⟩ = some (.slice ao7 data.1 cap7) := X3.cell 7
          have f3_7 : w3.frozen? ⟨w1.heap.size, 7, none⟩ = false := X3.frozen 7
          have z3_8 : w3.cell? ⟨w1.heap.size, 8, none⟩ = some (.slice ao8 delta.1 cap8) := X3.cell 8
          have f3_8 : w3.frozen? ⟨w1.heap.size, 8, none⟩ = false := X3.frozen 8
          clear X3 b3
          clear hw3 x2_0 kx2_0 y2_0 ky2_0 z2_0 f2_0 x2_1 kx2_1 y2_1 ky2_1 z2_1 f2_1 x2_2 kx2_2 y2_2 ky2_2 z2_2 f2_2 x2_3 kx2_3 y2_3 ky2_3 z2_3 f2_3 x2_4 kx2_4 y2_4 ky2_4 z2_4 f2_4 x2_5 kx2_5 y2_5 ky2_5 z2_5 f2_5 x2_6 kx2_6 y2_6 ky2_6 z2_6 f2_6 x2_7 kx2_7 y2_7 ky2_7 z2_7 f2_7 x2_8 kx2_8 y2_8 ky2_8 z2_8 f2_8
        · go_wp2
          go_ret
          exact recP rfl (Stair.pass HOK.out (Stair.pass HK.out (Stair.pass HQ.out (Stair.pass HN.out (Stair.fall (fun h => by have := HE.out.1 h; simp at this)))))) HB3.out
        · go_wp2
          go_ret
          exact recP rfl (Stair.pass HOK.out (Stair.pass HK.out (Stair.pass HQ.out (Stair.pass HN.out (Stair.fall (fun h => by have := HE.out.1 h; simp at this)))))) HB3.out
        · go_wp2
          go_ret
          exact recP rfl (Stair.pass HOK.out (Stair.pass HK.out (Stair.pass HQ.out (Stair.pass HN.out (Stair.fall (fun h => by have := HE.out.1 h; simp at this)))))) HB3.out
        · go_wp2
          go_ret
          exact recP rfl (Stair.pass HOK.out (Stair.pass HK.out (Stair.pass HQ.out (Stair.pass HN.out (Stair.fall (fun h => by have := HE.out.1 h; simp at this)))))) HB3.out
        · go_wp2
          go_ret
          exact recP rfl (Stair.pass HOK.out (Stair.pass HK.out (Stair.pass HQ.out (Stair.pass HN.out (Stair.fall (fun h => by have := HE.out.1 h; simp at this)))))) HB3.out
        · have HKP : Hid (KindP s ⟨4, seq, name, length, group, row, rows, data, delta⟩) := HE.out.2 (by simp)
          go_wp2_with fail
          refine (l5Empty_any _ _ _ _ _ _ _ _ _ _ _ _ _ _ _ _).mono ?_
          rintro e w9 ⟨t9, rfl, ht9, b9⟩
          have HB9 : Hid (Below w.heap.size w w9) := by
            show Below w.heap.size w w9
            refine Below.trans ?_ (b9.mono ?_)
            · repeat (refine below_set ?_ (by omega))
              exact HB3.out
            · simp
              exact HB3.out.size
          clear b9
          have HT9 : Hid (t9 = true ↔ BlankP ⟨4, seq, name, length, group, row, rows, data, delta⟩) := by
            show t9 = true ↔ BlankP ⟨4, seq, name, length, group, row, rows, data, delta⟩
            rw [ht9]
            unfold EmptyQ BlankP noName
            simp [and_assoc]
            try (intros; rfl)
          clear ht9
          cases t9 with
          | false =>
            go_wp2
            go_ret
            exact recP rfl (Stair.pass HOK.out (Stair.pass HK.out (Stair.pass HQ.out (Stair.pass HN.out (Stair.pass HKP.out (Stair.fall (fun h => by have := HT9.out.2 h; simp at this))))))) HB9.out
          | true =>
            go_wp2
            go_ret
            exact recP rfl (Stair.pass HOK.out (Stair.pass HK.out (Stair.pass HQ.out (Stair.pass HN.out (Stair.pass HKP.out (Stair.pass (HT9.out.1 (by simp)) (Stair.last rfl))))))) HB9.out
    · go_wp2_with fail
      refine (l1In_b (t := false) (exBF hq) _).mono ?_
      rintro e w' ⟨rfl, hw'⟩
      obtain rfl := hw'.symm
      go_wp2
      go_ret
      exact recP rfl (Stair.pass HOK.out (Stair.pass hk (Stair.fall hq))) HT1.out.bel
  · go_wp2_with fail
    refine (l1In_b (t := false) (exBF hk) _).mono ?_
    rintro e w' ⟨rfl, hw'⟩
    obtain rfl := hw'.symm
    go_wp2
    go_ret
    exact recP rfl (Stair.pass HOK.out (Stair.fall hk)) HT1.out.bel
end Go.Proofs.YtcdnhhdknkhnkaaGreat
namespace Go.Proofs.YtcdnhhdknkhnkaaGreat
open Go.RowKit F256
theorem stair_ex {K : Int → Prop} (hK : ∃ x, K x) : ∀ l : List (Prop × Int), ∃ x, Stair l K x
  | [] => hK
  | (p, c) :: l => by
    by_cases h : p
    · obtain ⟨x, hx⟩ := stair_ex hK l
      exact ⟨x, .inr ⟨h, hx⟩⟩
    · exact ⟨c, .inl ⟨h, rfl⟩⟩
theorem rec_det {s : Nat → Int} {d : RecD} {X : Int} {w : World} {f : Nat} {args : Array Value} (hX : RecAns s d X) (h : Calls Tryz.prog f args w (RecPost s d w)) : Calls Tryz.prog f args w fun e w' => e = .returned (.int .i64 X) ∧ Below w.heap.size w w' :=
  h.mono fun e w' ⟨x, h1, h2, h3⟩ => ⟨by rw [h1, h2.one hX], h3⟩
def WldPost (d : WorldD) (w : World) (e : Ending) (w' : World) : Prop := ∃ x, e = .returned (.int .i64 x) ∧ WldAns d x ∧ Below w.heap.size w w'
theorem wldP {d : WorldD} {w : World} {e : Ending} {w' : World} {x : Int} (he : e = .returned (.int .i64 x)) (h : WldAns d x) (hb : Below w.heap.size w w') : WldPost d w e w' := ⟨x, he, h, hb⟩
def RcsPost (s : Nat → Int) (p : Nat × (Nat → TapeD)) (w : World) (e : Ending) (w' : World) : Prop := ∃ x, e = .returned (.int .i64 x) ∧ RecsAns s p.1 p.2 x ∧ Below w.heap.size w w'
theorem WQ.free {P : Program} {ops : Array Oper} {C : World → Prop} {Q : Act → Prop} {a : Act} {o : Oper} {rest : List Oper} (hw : o.guard = none)
    (h : ∀ K : Act → Prop, (∀ a, WQ P ops C Q rest a → K a) → o.quiet P a C K) : WQ P ops C Q (o :: rest) a := WQ.want (by simp [Region.wanted, hw]) h
end Go.Proofs.YtcdnhhdknkhnkaaGreat
namespace Go.Proofs.YtcdnhhdknkhnkaaGreat
open Go.RowKit F256
theorem recs_row (s : Nat → Int) (y : Nat → RecD) : ∀ k, (∀ i, i < k → RecAns s (y i) 0) ∨ ∃ i c, i < k ∧ c ≠ 0 ∧ RecAns s (y i) c ∧ ∀ j, j < i → RecAns s (y j) 0
  | 0 => .inl (fun i hi => by omega)
  | k + 1 => by
    rcases recs_row s y k with h | ⟨i, c, h1, h2, h3, h4⟩
    · obtain ⟨X, hX⟩ : ∃ X, RecAns s (y k) X := stair_ex (K := isZ) ⟨0, rfl⟩ _
      by_cases hx : X = 0
      · subst hx
        exact .inl (fun i hi => by
          by_cases c : i = k
          · subst c; exact hX
          · exact h i (by omega))
      · exact .inr ⟨k, X, by omega, hx, hX, h⟩
    · exact .inr ⟨i, c, by omega, h2, h3, h4⟩
theorem recs_ex (s : Nat → Int) (x : Nat → TapeD) : ∀ n, ∃ c, RecsAns s n x c
  | 0 => ⟨0, .inl ⟨rfl, fun t ht => by omega⟩⟩
  | n + 1 => by
    obtain ⟨c, hc⟩ := recs_ex s x n
    rcases hc with ⟨rfl, h⟩ | ⟨hc, t, i, ht, hi, hr, hb, hu⟩
    · rcases recs_row s (x n).recs.2 (x n).recs.1 with k | ⟨i, c, h1, h2, h3, h4⟩
      · exact ⟨0, .inl ⟨rfl, fun t ht => by
          by_cases c : t = n
          · subst c; exact k
          · exact h t (by omega)⟩⟩
      · exact ⟨c, .inr ⟨h2, n, i, by omega, h1, h3, h4, h⟩⟩
    · exact ⟨c, .inr ⟨hc, t, i, by omega, hi, hr, hb, hu⟩⟩
theorem world_ex (d : WorldD) : ∃ X, WldAns d X := by
  unfold WldAns
  refine stair_ex ?_ _
  obtain ⟨c, hc⟩ := recs_ex d.shape d.tapes.2 d.tapes.1
  by_cases h : c = 0
  · subst h
    obtain ⟨x, hx⟩ := stair_ex (K := isZ) ⟨0, rfl⟩ [(CleanP d, 1), (CountP d, 3)]
    exact ⟨x, .inr ⟨hc, hx⟩⟩
  · exact ⟨c, .inl ⟨h, hc⟩⟩
end Go.Proofs.YtcdnhhdknkhnkaaGreat
namespace Go.Proofs.YtcdnhhdknkhnkaaGreat
open Go.RowKit F256
structure ElInfo {α : Type} (E : Lay α) (T e : TypeId) (by_ : Nat) (zs : List Value) : Prop where
  hs : 0 < E.sz
  hzs : zs.length = E.sz
  hu : Tryz.prog.underlying T = some (.slice e)
  hi : (Tryz.prog.info? e).map (fun i => (i.zero.map (·.cells), i.size, i.bytes)) = some (some zs.toArray, E.sz, by_)
  few : by_ ≤ 1000
def Gat {α : Type} (E : Lay α) (t : TypeId) (w : World) (lo : Nat) (v : Value) (n : Nat) (x : Nat → α) : Prop := ∃ ce Ls, SlG E t w lo v n x ce Ls
section
variable {α : Type} {E : Lay α} {t : TypeId} {w w' : World} {lo n : Nat} {v : Value} {x : Nat → α}
theorem Gat.nil (x : Nat → α) (w : World) (lo : Nat) : Gat E t w lo (.slice none 0 0) 0 x := ⟨_, _, SlG.nil x w lo⟩
theorem Gat.form (h : Gat E t w lo v n x) : ∃ ao cap, v = .slice ao n cap := by
  obtain ⟨ce, Ls, h⟩ := h
  rcases h.row.2 with ⟨hv, hn⟩ | ⟨g, cap, cur, rfl, _⟩
  · exact ⟨none, 0, by rw [hv, hn]⟩
  · exact ⟨_, _, rfl⟩
theorem Gat.below (h : Gat E t w lo v n x) (hb : Below w.heap.size w w') : Gat E t w' lo v n x := by
  obtain ⟨ce, Ls, h⟩ := h
  exact ⟨ce, Ls, h.below hb⟩
theorem Gat.own (h : Gat E t w lo v n x) : OwnT (E.slice t) w lo w.heap.size (n, x) [v] := by
  obtain ⟨ce, Ls, h⟩ := h
  exact h.own
theorem Gat.congr {y : Nat → α} (h : Gat E t w lo v n x) (hy : ∀ i, i < n → x i = y i) : Gat E t w lo v n y := by
  obtain ⟨ce, Ls, h⟩ := h
  exact ⟨ce, Ls, h.row, fun i hi => by rw [← hy i hi]; exact h.each i hi, h.nd, h.low⟩
theorem SlG.mem_low {ce : Nat → List Value} {Ls : Nat → List Nat} (h : SlG E t w lo v n x ce Ls) : ∀ b, b ∈ v.ownBlock.toList ++ catN n Ls → lo ≤ b := fun b hb => by
  rcases List.mem_append.1 hb with h1 | h1
  · exact (h.row.lt b (by simpa using h1)).1
  · exact h.low b h1
theorem Gat.set (h : Gat E t w lo v n x) (b j : Nat) (u : Value) (hb : b < lo) : Gat E t (w.setCell ⟨b, j, none⟩ u) lo v n x := by
  obtain ⟨ce, Ls, h⟩ := h
  exact ⟨ce, Ls, h.kept (fun k hk => heap_setCell_other w ⟨b, j, none⟩ k u (by have := h.mem_low k hk; show k ≠ b; omega))⟩
theorem Gat.weaken {lo' : Nat} (h : Gat E t w lo v n x) (hl : lo' ≤ lo) : Gat E t w lo' v n x := by
  obtain ⟨ce, Ls, h⟩ := h
  refine ⟨ce, Ls, ⟨h.row.1, ?_⟩, h.each, h.nd, fun b hb => Nat.le_trans hl (h.low b hb)⟩
  rcases h.row.2 with hn | ⟨g, cap, cur, rfl, hbg, rest⟩
  · exact .inl hn
  · exact .inr ⟨g, cap, cur, rfl, by omega, rest⟩
theorem gat_lit0 (x : Nat → α) (w : World) : Gat E t (w.alloc (.cells #[] t)) w.heap.size (.slice (some ⟨w.heap.size, 0, none⟩) 0 0) 0 x := by
  have h := World.ownsRow_lit (base := w.heap.size) (e := t) (size := E.sz) w #[] 0 (Nat.le_refl _) (Nat.zero_le _) (by simp)
  exact ⟨fun _ => [], fun _ => [], by simpa [catN_zero] using h, fun i hi => by omega, by simp [Value.ownBlock, catN_zero], fun b hb => by rw [catN_zero] at hb; cases hb⟩
end
theorem cells_new (w : World) (cs : List Value) (t : TypeId) (j : Nat) : (w.alloc (.cells cs.toArray t)).cell? ⟨w.heap.size, j, none⟩ = cs[j]? := by
  simp
theorem run_appendN {α : Type} {E : Lay α} {T e : TypeId} {by_ : Nat} {zs : List Value} (I : ElInfo E T e by_ zs) (ty : TypeId) {w1 w2 W : World} {lo n : Nat} {v : Value} {x : Nat → α} (hG : Gat E e w1 lo v n x)
    (hb : Below w1.heap.size w1 w2) {d : α} {cs : List Value} (ha : OwnT E w2 w1.heap.size w2.heap.size d cs) (hW : Below w2.heap.size w2 W) (b c : Nat) (hcell : ∀ j, j < E.sz → W.cell? ⟨b, j, none⟩ = cs[j]?) (hlo : lo ≤ w1.heap.size) (hn : n ≤ 10000000) :
    ∃ v' w', (Builtin.append_ #[T, T] ty #[v, .slice (some ⟨b, 0, none⟩) 1 c]).run Tryz.prog W = .ok v' w' ∧ Gat E e w' lo v' (n + 1) (upd x n d) ∧ Below lo w1 w' := by
  obtain ⟨hs, hzs, hu, hi, few⟩ := I
  obtain ⟨i0, hi0⟩ : ∃ i0, Tryz.prog.info? e = some i0 := by
    cases h : Tryz.prog.info? e with
    | none => rw [h] at hi; cases hi
    | some i0 => exact ⟨i0, rfl⟩
  rw [hi0] at hi
  simp only [Option.map_some, Option.some.injEq, Prod.mk.injEq] at hi
  obtain ⟨h1, h2, h3⟩ := hi
  obtain ⟨z, hz, hzc⟩ : ∃ z, i0.zero = some z ∧ z.cells = zs.toArray := by
    cases h : i0.zero with
    | none => rw [h] at h1; cases h1
    | some z => rw [h] at h1; exact ⟨z, rfl, by simpa using h1⟩
  obtain ⟨ce, Ls, hG1⟩ := hG
  have hbW : Below w1.heap.size w1 W := hb.trans (hW.mono hb.size)
  have hG2 : SlG E e W lo v n x ce Ls := hG1.below hbW
  obtain ⟨K, a1, a2, a3⟩ := ha
  have ha' : E.own W d cs K := E.own_kept a1 (fun k hk => hW.block k (E.own_lt a1 k hk))
  have hcs := E.own_len a1
  obtain ⟨v', w', hr, r1, r2, r3, r4⟩ := run_append_own_at (P := Tryz.prog) W lo T ty e i0 z E.sz by_ hu hi0 hz h2 h3 (by rw [hzc]; simpa using hzs) hs v n (catN n ce) hG2.row ⟨b, 0, none⟩ 1 c cs (by rw [hcs, Nat.one_mul])
    (fun j u hj => by
      have hlt : j < cs.length := (List.getElem?_eq_some_iff.1 hj).1
      have := hcell j (by omega)
      rw [hj] at this
      rw [add_o]
      exact this) (E.own_one ha') (by unfold maxLen; omega) (by
        have : (n + 1) * by_ ≤ 10000001 * 1000 := Nat.mul_le_mul (by omega) few
        omega) (Nat.le_trans hlo hbW.size)
  refine ⟨v', w', hr, ⟨_, _, hG2.grown ha' a2 (fun k hk => ?_) r1 r2 r4⟩, ?_⟩
  · have h5 := (a3 k hk).1
    exact ⟨by omega, fun hh => by have := hG1.mem_lt k hh; omega⟩
  · exact (hbW.mono hlo).grown r2 (Nat.le_trans hlo hbW.size) (fun k hk => (hG2.row.lt k hk).1)
theorem wp_appendN {α : Type} {E : Lay α} {T e : TypeId} {by_ : Nat} {zs : List Value} (I : ElInfo E T e by_ zs) {w1 w2 W : World} {ops : Array Oper} {rest : List Oper} {o : Oper} {a : Act} {Q : Exit → Act → World → Prop}
    (hg : o.guard = none) (s y : Operand) (hop : o.op = Op.call { callee := Callee.builtin Builtin.append, args := #[s, y], argTypes := #[T, T] })
    {lo n : Nat} {v : Value} {x : Nat → α} (hev : a.eval s = v) (hG : Gat E e w1 lo v n x)
    (hb : Below w1.heap.size w1 w2) {d : α} {cs : List Value} (ha : OwnT E w2 w1.heap.size w2.heap.size d cs) (hW : Below w2.heap.size w2 W) (b c : Nat) (hx : a.eval y = .slice (some ⟨b, 0, none⟩) 1 c) (hcell : ∀ j, j < E.sz → W.cell? ⟨b, j, none⟩ = cs[j]?) (hlo : lo ≤ w1.heap.size) (hn : n ≤ 10000000)
    (hK : ∀ v' w', Gat E e w' lo v' (n + 1) (upd x n d) → Below lo w1 w' → wpList Tryz.prog ops Q rest (a.put o.dst v') w') : wpList Tryz.prog ops Q (o :: rest) a W := by
  refine wpList_plain hg fun K hK' => ?_
  obtain ⟨v', w', hrun, r1, r2⟩ := run_appendN I o.type hG hb ha hW b c hcell hlo hn
  unfold Oper.wp
  simp [execOp, hop, resolve, invoke, builtin, hev, hx, hrun, Result.andThen]
  exact hK' _ _ (hK v' w' r1 r2)
end Go.Proofs.YtcdnhhdknkhnkaaGreat
namespace Go.Proofs.YtcdnhhdknkhnkaaGreat
open Go.RowKit F256
def blankB : BlockD := ⟨0, (4, fun _ => 0)⟩
def freshD (rows : Nat) : DriveD := ⟨false, (rows, fun _ => blankB)⟩
theorem ownB_T {w : World} {lo hi n : Nat} {v : Value} {f : Nat → Nat} (h : Own w lo hi v n f) (hh : hi ≤ w.heap.size) (kf : ∀ i, f i < 256) : OwnT layBytes w lo hi (n, f) [v] := by
  refine ⟨v.ownBlock.toList, ⟨v, rfl, rfl, h.weaken (Nat.zero_le _) hh, kf⟩, ?_, fun b hb => ?_⟩
  · cases v.ownBlock <;> simp
  · have hb' : v.ownBlock = some b := by simpa using hb
    exact ⟨(h.1.lt b hb').1, h.2 b hb'⟩
theorem Three.low {w wc w' : World} {c1 c2 c3 : Array Value} {t1 t2 t3 : TypeId} (h : Three w wc c1 c2 c3 t1 t2 t3) (hb : Below (w.heap.size + 1 + 1 + 1) wc w') : Three w w' c1 c2 c3 t1 t2 t3 :=
  ⟨h.b1.below hb (by omega), h.b2.below hb (by omega), h.b3.below hb (by omega), h.bel.trans (hb.mono (by omega))⟩
end Go.Proofs.YtcdnhhdknkhnkaaGreat
namespace Go.Proofs.YtcdnhhdknkhnkaaGreat
open Go.RowKit F256
section
variable {α : Type} {E : Lay α} {t : TypeId} {w w1 : World} {lo g cap n k : Nat} {x : Nat → α} {ce : Nat → List Value} {Ls : Nat → List Nat}
theorem SlP.count {x1 : Nat → α} {ce1 : Nat → List Value} (h1 : SlP E t w1 lo g cap n k x1 ce1 Ls) (h : SlP E t w lo g cap n k x ce Ls) {a : α} {K : List Nat} (ha : E.own w a (ce k) K) (hnd : K.Nodup) (hK : ∀ b, b ∈ K → w1.heap.size ≤ b) (hlo : lo ≤ w1.heap.size) :
    SlP E t w lo g cap n (k + 1) (upd x k a) ce (upd Ls k K) := by
  have eL : catN (k + 1) (upd Ls k K) = catN k Ls ++ K := by
    rw [catN_succ, upd_at, catN_congr (g := Ls) (fun i hi => upd_ne Ls K (by omega))]
  refine ⟨h.row, h.lens, fun i hi => ?_, ?_, ?_⟩
  · by_cases c : i = k
    · subst c; rw [upd_at, upd_at]; exact ha
    · rw [upd_ne x a c, upd_ne Ls K c]; exact h.each i (by omega)
  · rw [eL]
    refine List.nodup_cons.2 ⟨fun hb => ?_, List.nodup_append.2 ⟨(List.nodup_cons.1 h.nd).2, hnd, fun b hb c hc hh => ?_⟩⟩
    · rcases List.mem_append.1 hb with h3 | h3
      · exact (List.nodup_cons.1 h.nd).1 h3
      · have := hK g h3; have := h1.lt; omega
    · subst hh
      have k1 := h1.mem_lt b hb
      have k2 := hK b hc
      omega
  · rw [eL]
    intro b hb
    rcases List.mem_append.1 hb with h3 | h3
    · exact h.low b h3
    · have := hK b h3; omega
theorem SlP.congr {y : Nat → α} (h : SlP E t w lo g cap n k x ce Ls) (hy : ∀ i, i < k → x i = y i) : SlP E t w lo g cap n k y ce Ls := ⟨h.row, h.lens, fun i hi => by rw [← hy i hi]; exact h.each i hi, h.nd, h.low⟩
theorem SlP.zero {zs : List Value} {a : α} (h : SlP E t w lo g cap n 0 x (fun _ => zs) Ls) (hz : E.own w a zs []) (hg : lo ≤ g) : OwnT (E.slice t) w lo w.heap.size (n, fun _ => a) [.slice (Option.some ⟨g, 0, none⟩) n cap] := by
  have e : ∀ m, catN m (fun _ => ([] : List Nat)) = [] := fun m => by
    induction m with
    | zero => rfl
    | succ m ih => rw [catN_succ, ih]; rfl
  have h2 : SlP E t w lo g cap n n (fun _ => a) (fun _ => zs) (fun _ => []) := ⟨h.row, h.lens, fun i _ => hz, by rw [e]; simp, fun b hb => by rw [e] at hb; cases hb⟩
  exact h2.done hg
end
end Go.Proofs.YtcdnhhdknkhnkaaGreat
namespace Go.Proofs.YtcdnhhdknkhnkaaGreat
open Go.RowKit F256
def noRec : RecD := ⟨0, 0, ByteArray.empty, 0, 0, 0, (0, fun _ => 0), (0, fun _ => 0), (0, fun _ => 0)⟩
def zeroT : TapeD := ⟨false, (0, fun _ => noRec)⟩
def zeroW : WorldD := ⟨fun _ => 0, (0, fun _ => (0, fun _ => freshD 0)), (0, fun _ => 0), (0, fun _ => zeroT), 0, 0, false⟩
def newW (s : Nat → Int) : WorldD := ⟨s, ((s 0 + s 1).toNat, fun _ => ((s 2 + s 3).toNat, fun _ => freshD (s 4).toNat)), (0, fun _ => 0), (2, fun _ => zeroT), 0, -1, false⟩
def NewAns (s : Nat → Int) (d : WorldResultD) : Prop := (¬ OkShape s ∧ d = ⟨3, zeroW⟩) ∨ (OkShape s ∧ d = ⟨0, newW s⟩)
theorem NewAns.one {s : Nat → Int} {d e : WorldResultD} (h : NewAns s d) (k : NewAns s e) : d = e := by
  rcases h with ⟨h1, h2⟩ | ⟨h1, h2⟩ <;> rcases k with ⟨k1, k2⟩ | ⟨k1, k2⟩
  · rw [h2, k2]
  · exact absurd k1 h1
  · exact absurd h1 k1
  · rw [h2, k2]
theorem own_noSl {α : Type} {E : Lay α} {t : TypeId} (w : World) (x : Nat → α) : (E.slice t).own w (0, x) [.slice none 0 0] [] := ⟨_, fun _ => [], fun _ => [], rfl, rfl, World.ownsRow_nil w 0 t E.sz, fun i hi => by omega⟩
theorem own_zeroT (w : World) : layTape.own w zeroT [.bool false, .slice none 0 0] [] := ⟨_, _, [], [], rfl, rfl, ⟨rfl, trivial, rfl⟩, own_noSl w _⟩
theorem ChgL.bel {K : List Nat} {w w' : World} {B : Nat} (hc : ChgL K w w') (hK : ∀ b, b ∈ K → B ≤ b) (hB : B ≤ w.heap.size) : Below B w w' := ⟨hc.os, hc.tape, hc.output, hc.size, fun k hk => hc.block k (by omega) (fun h => by have := hK k h; omega)⟩
theorem ChgL.after {K : List Nat} {a b c : World} (h : ChgL K a b) (k : Below a.heap.size b c) : ChgL K a c := ⟨k.os.trans h.os, k.tape.trans h.tape, k.output.trans h.output, Nat.le_trans h.size k.size, fun i hi hn => (k.block i hi).trans (h.block i hi hn)⟩
theorem OwnT.finb {α : Type} {A : Lay α} {w : World} {lo b : Nat} {a : α} {cs : List Value} (h : OwnT A w lo w.heap.size a cs) (hb : b < lo) {lo' : Nat} (hl : lo' ≤ lo) (o : Nat) (l : List Value) (w' : World) (e : w' = Go.Proofs.YtcdnhhdknkhnkaaGreat.stN w b o l) : OwnT A w' lo' w'.heap.size a cs := by
  subst e
  exact (h.stN b o l hb).weaken hl (by rw [stN_size]; exact Nat.le_refl _)
structure NewBx (cs : Array Value) (w1 wx : World) (P t : Nat) : Prop where
  box : Box wx P cs 38
  tp : (layTape.slice 88).own wx (2, fun _ => zeroT) [.slice (some ⟨t, 0, none⟩) 2 2] [t]
  p1 : w1.heap.size ≤ P
  t1 : w1.heap.size ≤ t
  ne : t ≠ P
  bel : Below w1.heap.size w1 wx
theorem SlP.two {w : World} {lo t cap : Nat} {x : Nat → TapeD} {Ls : Nat → List Nat} (h : SlP layTape 88 w lo t cap 2 0 x (fun _ => [.bool false, .slice none 0 0]) Ls) : (layTape.slice 88).own w (2, fun _ => zeroT) [.slice (Option.some ⟨t, 0, none⟩) 2 cap] [t] := by
  refine ⟨_, fun _ => [.bool false, .slice none 0 0], fun _ => [], rfl, rfl, ⟨h.row.1, ?_⟩, fun i _ => own_zeroT w⟩
  rcases h.row.2 with ⟨hn, _⟩ | ⟨g', cap', cur, he, hbg, rest⟩
  · cases hn
  · exact .inr ⟨g', cap', cur, he, Nat.zero_le _, rest⟩
end Go.Proofs.YtcdnhhdknkhnkaaGreat
namespace Go.Proofs.YtcdnhhdknkhnkaaGreat
open Go.RowKit F256
theorem mark_T {α : Type} {A : Lay α} {c : α → Nat} {mk : Nat → α → α} {fn : Nat} (hm : MkV A c mk fn) {w : World} {lo hi : Nat} {d : α} {cs : List Value} (h : OwnT A w lo hi d cs) (j : Nat) (hj : j + c d ≤ 100000000) :
    Calls Tryz.prog fn #[.agg cs.toArray, .int .i64 j] w fun e w' => e = .returned (.int .i64 ((j + c d : Nat) : Int)) ∧ OwnT A w' lo hi (mk j d) cs ∧ Chg lo hi w w' := by
  obtain ⟨L, h1, h2, h3⟩ := h
  exact (hm cs d L j w h1 h2 hj).mono fun e w' ⟨he, ho, hc⟩ => ⟨he, ⟨L, ho, h2, h3⟩, hc.chg h3⟩
theorem Chg.bel {lo hi B : Nat} {w w' : World} (h : Chg lo hi w w') (hl : B ≤ lo) (hB : B ≤ w.heap.size) : Below B w w' := ⟨h.os, h.tape, h.output, h.size, fun k hk => h.block k (by omega) (.inl (by omega))⟩
theorem sumN_mono2 {f g : Nat → Nat} : ∀ {n : Nat}, (∀ i, i < n → f i ≤ g i) → sumN f n ≤ sumN g n
  | 0, _ => Nat.le_refl _
  | n + 1, h => by
    rw [sumN_succ, sumN_succ]
    exact Nat.add_le_add (sumN_mono2 (fun i hi => h i (by omega))) (h n (by omega))
theorem sumN_plus (f : Nat → Nat) (c k : Nat) : ∀ n : Nat, sumN (fun i => c + k * f i) n = n * c + k * sumN f n
  | 0 => by simp [sumN]
  | n + 1 => by rw [sumN_succ, sumN_plus f c k n, sumN_succ, Nat.succ_mul, Nat.mul_add]; omega
theorem cSl_le {α : Type} {c s : α → Nat} {k : Nat} (h : ∀ a, c a ≤ k + k * s a) (p : Nat × (Nat → α)) : cSl c p ≤ k * szSl s p := by
  unfold cSl szSl
  have h1 : sumN (fun i => c (p.2 i)) p.1 ≤ sumN (fun i => k + k * s (p.2 i)) p.1 := sumN_mono2 (fun i _ => h (p.2 i))
  rw [sumN_plus (fun i => s (p.2 i)) k k p.1] at h1
  rw [Nat.mul_add]
  have : p.1 * k = k * p.1 := Nat.mul_comm _ _
  omega
theorem cBlock_le (d : BlockD) : cBlockD d ≤ 6 + 6 * szBlockD d := by unfold cBlockD szBlockD; omega
theorem cDrive_le (d : DriveD) : cDriveD d ≤ 6 + 6 * szDriveD d := by
  have := cSl_le (k := 6) cBlock_le d.blocks
  unfold cDriveD szDriveD
  omega
theorem cRec_le (d : RecD) : cRecD d ≤ 6 + 6 * szRecD d := by unfold cRecD szRecD; omega
theorem cTape_le (d : TapeD) : cTapeD d ≤ 6 + 6 * szTapeD d := by
  have := cSl_le (k := 6) cRec_le d.recs
  unfold cTapeD szTapeD
  omega
theorem cvWorld_le (d : WorldD) : cvWorldD d ≤ 6 * szWorldD d := by
  have h1 := cSl_le (c := cSl cDriveD) (s := szSl szDriveD) (k := 6) (fun p => Nat.le_trans (cSl_le (k := 6) cDrive_le p) (by omega)) d.groups
  have h3 := cSl_le (k := 6) cTape_le d.tapes
  unfold cvWorldD szWorldD
  omega
end Go.Proofs.YtcdnhhdknkhnkaaGreat
namespace Go.Proofs.YtcdnhhdknkhnkaaGreat
open Go.RowKit F256
theorem OwnT.one {α : Type} {A : Lay α} {w : World} {lo hi : Nat} {a : α} {cs : List Value} (h : OwnT A w lo hi a cs) : ∀ v, v ∈ cs → v.oneCell' = true := by
  obtain ⟨L, h1, _⟩ := h
  exact fun v hv => A.own_one h1 v hv
theorem wp_allocStore {ops : Array Oper} {rest : List Oper} {o1 o2 : Oper} {a : Act} {w : World} {Q : Exit → Act → World → Prop} (T : TypeId) (k : Nat) (x : Operand) (cs : List Value) (zs : Array Value) (n : Nat)
    (hop1 : o1.op = Op.alloc T) (hop2 : o2.op = Op.store T (.tmp k) x) (hg1 : o1.guard = none) (hg2 : o2.guard = none) (hd1 : o1.dst = some k) (hd2 : o2.dst = none)
    (hp : (a.put (some k) (.pointer (some ⟨w.heap.size, 0, none⟩))).eval (.tmp k) = .pointer (some ⟨w.heap.size, 0, none⟩)) (hx : (a.put (some k) (.pointer (some ⟨w.heap.size, 0, none⟩))).eval x = .agg cs.toArray)
    (hi : (Tryz.prog.info? T).map (fun i => (i.zero.map (·.cells), i.size)) = some (some zs, n)) (hz : zs.size = n) (hl : cs.length = n) (h1 : ∀ v, v ∈ cs → v.oneCell' = true)
    (h : wpList Tryz.prog ops Q rest (a.put (some k) (.pointer (some ⟨w.heap.size, 0, none⟩))) (w.alloc (.cells cs.toArray T))) : wpList Tryz.prog ops Q (o1 :: o2 :: rest) a w := by
  obtain ⟨i0, hi0⟩ : ∃ i0, Tryz.prog.info? T = some i0 := by
    cases h : Tryz.prog.info? T with
    | none => rw [h] at hi; cases hi
    | some i0 => exact ⟨i0, rfl⟩
  rw [hi0] at hi
  simp only [Option.map_some, Option.some.injEq, Prod.mk.injEq] at hi
  obtain ⟨h2, h3⟩ := hi
  obtain ⟨z, hzz, hzc⟩ : ∃ z, i0.zero = some z ∧ z.cells = zs := by
    cases h : i0.zero with
    | none => rw [h] at h2; cases h2
    | some z => rw [h] at h2; exact ⟨z, rfl, by simpa using h2⟩
  have hr : (Instr.alloc T true (.tuple #[])).run Tryz.prog w = .ok (.pointer (some ⟨w.heap.size, 0, none⟩)) (w.alloc (.cells zs T)) := by
    simp [Instr.alloc, zeroValue, typeInfo, hi0, hzz, hzc, newVar, newRow]
  have hw : (w.alloc (.cells zs T)).setRow w.heap.size cs.toArray = w.alloc (.cells cs.toArray T) := by
    have hh : ((w.alloc (.cells zs T)).setRow w.heap.size cs.toArray).heap = w.heap.push (.cells cs.toArray T) := by
      apply Array.ext_getElem?
      intro i
      by_cases c : i = w.heap.size
      · subst c
        rw [setRow_heap (w.alloc (.cells zs T)) w.heap.size zs cs.toArray T (0, 0) (box_new w zs T), Array.getElem?_push, if_pos rfl]
      · rw [setRow_other _ _ _ _ c, Array.getElem?_push, if_neg c]
        show (w.heap.push _)[i]? = _
        rw [Array.getElem?_push, if_neg c]
    show ({ w with heap := ((w.alloc (.cells zs T)).setRow w.heap.size cs.toArray).heap } : World) = _
    rw [hh]
    rfl
  refine wpList_plain hg1 fun K hK => ?_
  unfold Oper.wp execOp
  simp only [hop1, Sem.run_bind, hr, Result.andThen_ok]
  refine hK _ _ ?_
  rw [hd1]
  refine wpList_store_row hg2 T (.tmp k) x hop2 w.heap.size cs.toArray hp hx T zs (box_new w zs T) (by rw [hi0]; simp [h3, hl]) (by simp [hz, hl]) (by simp; exact h1) ?_
  rw [hw, hd2]
  exact h
theorem wp_loadBox {ops : Array Oper} {rest : List Oper} {o : Oper} {a : Act} {w : World} {Q : Exit → Act → World → Prop} (T : TypeId) (x : Operand) (ho : o.op = .load T x) (hgd : o.guard = none) (b : Nat) (hx : a.eval x = .pointer (some ⟨b, 0, none⟩)) {cs : List Value} (hB : Box w b cs.toArray T) {fs : Array Field} (hu : Tryz.prog.underlying T = some (.struct fs)) {n : Nat} (hi : (Tryz.prog.info? T).map (·.size) = some n) (hl : cs.length = n)
    (h : wpList Tryz.prog ops Q rest (a.put o.dst (.agg cs.toArray)) w) : wpList Tryz.prog ops Q (o :: rest) a w :=
  wpList_load_row hgd T x ho b hx T cs.toArray (0, 0) (.struct fs) hB hu rfl (by rw [hi]; simp [hl]) h
theorem OwnT.len {α : Type} {A : Lay α} {w : World} {lo hi : Nat} {a : α} {cs : List Value} (h : OwnT A w lo hi a cs) : cs.length = A.sz := by
  obtain ⟨L, h1, _⟩ := h
  exact A.own_len h1
theorem size_W : (Tryz.prog.info? 38).map (·.size) = some 15 := by kernel_rfl
theorem size_LW : (Tryz.prog.info? 28).map (·.size) = some 15 := by kernel_rfl
theorem info_W : (Tryz.prog.info? 38).map (fun i => (i.zero.map (·.cells), i.size)) = some (some #[.int .i64 0, .int .i64 0, .int .i64 0, .int .i64 0, .int .i64 0, .int .i64 0, .int .i64 0, .int .i64 0, .int .i64 0, .slice none 0 0, .slice none 0 0, .slice none 0 0, .int .i64 0, .int .i64 0, .bool false], 15) := by kernel_rfl
end Go.Proofs.YtcdnhhdknkhnkaaGreat
namespace Go.Proofs.YtcdnhhdknkhnkaaGreat.Sym
def Re (a b : Nat) (p q : Nat → Nat) : Prop := ∃ s t : Nat → Nat, (∀ i, q i = p (s i)) ∧ (∀ i, t (s i) = i) ∧ (∀ i, s (t i) = i) ∧ ∀ i, (i < a ∨ b ≤ i) → s i = i
theorem Re.refl (a b : Nat) (p : Nat → Nat) : Re a b p p := ⟨id, id, fun _ => rfl, fun _ => rfl, fun _ => rfl, fun _ _ => rfl⟩
theorem Re.trans {a b : Nat} {p q r : Nat → Nat} (h : Re a b p q) (k : Re a b q r) : Re a b p r := by
  obtain ⟨s, t, h1, h2, h3, h4⟩ := h
  obtain ⟨s', t', k1, k2, k3, k4⟩ := k
  refine ⟨fun i => s (s' i), fun i => t' (t i), fun i => by rw [k1, h1], fun i => ?_, fun i => ?_, fun i hi => ?_⟩
  · show t' (t (s (s' i))) = i
    rw [h2, k2]
  · show s (s' (t' (t i))) = i
    rw [k3, h3]
  · show s (s' i) = i
    rw [k4 i hi, h4 i hi]
theorem Re.mono {a b a' b' : Nat} {p q : Nat → Nat} (h : Re a b p q) (ha : a' ≤ a) (hb : b ≤ b') : Re a' b' p q := by
  obtain ⟨s, t, h1, h2, h3, h4⟩ := h
  exact ⟨s, t, h1, h2, h3, fun i hi => h4 i (by omega)⟩
theorem Re.out {a b : Nat} {p q : Nat → Nat} (h : Re a b p q) {i : Nat} (hi : i < a ∨ b ≤ i) : q i = p i := by
  obtain ⟨s, t, h1, h2, h3, h4⟩ := h
  rw [h1, h4 i hi]
theorem Re.from {a b : Nat} {p q : Nat → Nat} (h : Re a b p q) {i : Nat} (hi : a ≤ i ∧ i < b) : ∃ j, (a ≤ j ∧ j < b) ∧ q i = p j := by
  obtain ⟨s, t, h1, h2, h3, h4⟩ := h
  refine ⟨s i, ?_, h1 i⟩
  by_cases c : a ≤ s i ∧ s i < b
  · exact c
  · have := h4 (s i) (by omega)
    have e : s i = i := by rw [← h2 (s i), this, h2]
    omega
def swp (i j : Nat) : Nat → Nat := fun k => if k = i then j else if k = j then i else k
theorem swp_swp (i j k : Nat) : swp i j (swp i j k) = k := by unfold swp; split <;> split <;> simp_all <;> split <;> simp_all
theorem Re.swaps {a b i j : Nat} (p : Nat → Nat) (hi : a ≤ i ∧ i < b) (hj : a ≤ j ∧ j < b) : Re a b p (fun k => p (swp i j k)) :=
  ⟨swp i j, swp i j, fun _ => rfl, swp_swp i j, swp_swp i j, fun k hk => by unfold swp; rw [if_neg (by omega), if_neg (by omega)]⟩
def swr (a b n : Nat) : Nat → Nat := fun k => if a ≤ k ∧ k < a + n then b + (k - a) else if b ≤ k ∧ k < b + n then a + (k - b) else k
theorem swr_zero (a b k : Nat) : swr a b 0 k = k := by unfold swr; rw [if_neg (by omega), if_neg (by omega)]
theorem swr_succ {a b n : Nat} (h : a + (n + 1) ≤ b) (k : Nat) : swr a b n (swp (a + n) (b + n) k) = swr a b (n + 1) k := by
  unfold swr swp
  by_cases c1 : k = a + n
  · rw [if_pos c1, if_neg (by omega), if_neg (by omega), if_pos (by omega)]; omega
  · rw [if_neg c1]
    by_cases c2 : k = b + n
    · rw [if_pos c2, if_neg (by omega), if_neg (by omega), if_neg (by omega), if_pos (by omega)]; omega
    · rw [if_neg c2]
      by_cases c3 : a ≤ k ∧ k < a + n
      · rw [if_pos c3, if_pos (by omega)]
      · rw [if_neg c3, if_neg (show ¬ (a ≤ k ∧ k < a + (n + 1)) by omega)]
        by_cases c4 : b ≤ k ∧ k < b + n
        · rw [if_pos c4, if_pos (by omega)]
        · rw [if_neg c4, if_neg (by omega)]
def rot (lo m hi : Nat) : Nat → Nat := fun k => if k < lo ∨ hi ≤ k then k else if k < lo + (hi - m) then m + (k - lo) else k - (hi - m)
theorem rot_more {m i j : Nat} (hij : j < i) (him : i ≤ m) (k : Nat) : swr (m - i) m j (rot (m - (i - j)) m (m + j) k) = rot (m - i) m (m + j) k := by
  unfold rot
  by_cases c1 : k < m - i ∨ m + j ≤ k
  · rw [if_pos (show k < m - i ∨ m + j ≤ k from c1), if_pos (by omega)]
    unfold swr; rw [if_neg (by omega), if_neg (by omega)]
  · rw [if_neg c1]
    by_cases c2 : k < m - i + (m + j - m)
    · rw [if_pos c2, if_pos (by omega)]
      unfold swr; rw [if_pos (by omega)]
    · rw [if_neg c2, if_neg (by omega)]
      by_cases c3 : k < m - (i - j) + (m + j - m)
      · rw [if_pos c3]
        unfold swr; rw [if_neg (by omega), if_pos (by omega)]; omega
      · rw [if_neg c3]
        unfold swr; rw [if_neg (by omega), if_neg (by omega)]
theorem rot_less {m i j : Nat} (hij : i < j) (him : i ≤ m) (k : Nat) : swr (m - i) (m + j - i) i (rot (m - i) m (m + (j - i)) k) = rot (m - i) m (m + j) k := by
  unfold rot
  by_cases c1 : k < m - i ∨ m + j ≤ k
  · rw [if_pos (show k < m - i ∨ m + j ≤ k from c1), if_pos (by omega)]
    unfold swr; rw [if_neg (by omega), if_neg (by omega)]
  · rw [if_neg c1]
    by_cases c4 : m + (j - i) ≤ k
    · rw [if_pos (by omega), if_neg (by omega)]
      unfold swr; rw [if_neg (by omega), if_pos (by omega)]; omega
    · rw [if_neg (by omega)]
      by_cases c2 : k < m - i + (m + (j - i) - m)
      · rw [if_pos c2, if_pos (by omega)]
        unfold swr; rw [if_neg (by omega), if_neg (by omega)]
      · rw [if_neg c2, if_pos (by omega)]
        unfold swr; rw [if_pos (by omega)]; omega
theorem rot_same {m i : Nat} (him : i ≤ m) (k : Nat) : swr (m - i) m i k = rot (m - i) m (m + i) k := by
  unfold rot swr
  by_cases c1 : k < m - i ∨ m + i ≤ k
  · rw [if_pos c1, if_neg (by omega), if_neg (by omega)]
  · rw [if_neg c1]
    by_cases c2 : k < m - i + (m + i - m)
    · rw [if_pos c2, if_pos (by omega)]
    · rw [if_neg c2, if_neg (by omega), if_pos (by omega)]; omega
theorem rot_back {lo m hi : Nat} (h1 : lo ≤ m) (h2 : m ≤ hi) (k : Nat) : rot lo (lo + (hi - m)) hi (rot lo m hi k) = k := by
  unfold rot
  by_cases c1 : k < lo ∨ hi ≤ k
  · rw [if_pos c1, if_pos c1]
  · rw [if_neg c1]
    by_cases c2 : k < lo + (hi - m)
    · rw [if_pos c2, if_neg (by omega), if_neg (by omega)]; omega
    · rw [if_neg c2, if_neg (by omega), if_pos (by omega)]; omega
theorem Re.rots {lo m hi : Nat} (p : Nat → Nat) (h1 : lo ≤ m) (h2 : m ≤ hi) : Re lo hi p (fun k => p (rot lo m hi k)) :=
  ⟨rot lo m hi, rot lo (lo + (hi - m)) hi, fun _ => rfl, rot_back h1 h2, fun k => by
    have := rot_back (lo := lo) (m := lo + (hi - m)) (hi := hi) (by omega) (by omega) k
    rwa [show lo + (hi - (lo + (hi - m))) = m by omega] at this, fun k hk => by unfold rot; rw [if_pos hk]⟩
structure Ord (lt : Nat → Nat → Prop) : Prop where
  trans : ∀ {i j k}, lt i j → lt j k → lt i k
  irr : ∀ i, ¬ lt i i
def Srt (lt : Nat → Nat → Prop) (p : Nat → Nat) (a b : Nat) : Prop := ∀ i j, a ≤ i → i < j → j < b → lt (p i) (p j)
theorem Srt.sub {lt : Nat → Nat → Prop} {p : Nat → Nat} {a b a' b' : Nat} (h : Srt lt p a b) (h1 : a ≤ a') (h2 : b' ≤ b) : Srt lt p a' b' := fun i j h3 h4 h5 => h i j (by omega) h4 (by omega)
theorem Srt.congr {lt : Nat → Nat → Prop} {p q : Nat → Nat} {a b : Nat} (h : Srt lt p a b) (e : ∀ i, a ≤ i → i < b → q i = p i) : Srt lt q a b := fun i j h3 h4 h5 => by
  rw [e i h3 (by omega), e j (by omega) h5]
  exact h i j h3 h4 h5
theorem Srt.join {lt : Nat → Nat → Prop} {p : Nat → Nat} {a m b : Nat} (h1 : Srt lt p a m) (h2 : Srt lt p m b) (h : ∀ i j, a ≤ i → i < m → m ≤ j → j < b → lt (p i) (p j)) : Srt lt p a b := fun i j h3 h4 h5 => by
  by_cases c1 : j < m
  · exact h1 i j h3 h4 c1
  · by_cases c2 : i < m
    · exact h i j h3 c2 (by omega) h5
    · exact h2 i j (by omega) h4 h5
theorem split {lt : Nat → Nat → Prop} (O : Ord lt) {p : Nat → Nat} {a m b s e mid : Nat} (h1 : Srt lt p a m) (h2 : Srt lt p m b) (hm : mid + m = s + e) (ha : a ≤ s) (sm : s ≤ m) (me : m ≤ e) (eb : e ≤ b)
    (q1 : s ≠ a → e ≠ b → lt (p (s - 1)) (p e)) (q2 : s ≠ m → e ≠ m → lt (p (e - 1)) (p s)) :
    Srt lt (fun k => p (rot s m e k)) a s ∧ Srt lt (fun k => p (rot s m e k)) s mid ∧ Srt lt (fun k => p (rot s m e k)) mid e ∧ Srt lt (fun k => p (rot s m e k)) e b ∧
      ∀ i j, a ≤ i → i < mid → mid ≤ j → j < b → lt (p (rot s m e i)) (p (rot s m e j)) := by
  have r1 : ∀ i, i < s → rot s m e i = i := fun i hi => by unfold rot; rw [if_pos (by omega)]
  have r2 : ∀ i, s ≤ i → i < mid → rot s m e i = m + (i - s) := fun i h3 h4 => by unfold rot; rw [if_neg (by omega), if_pos (by omega)]
  have r3 : ∀ i, mid ≤ i → i < e → rot s m e i = s + (i - mid) := fun i h3 h4 => by unfold rot; rw [if_neg (by omega), if_neg (by omega)]; omega
  have r4 : ∀ i, e ≤ i → rot s m e i = i := fun i hi => by unfold rot; rw [if_pos (by omega)]
  refine ⟨fun i j x y z => ?_, fun i j x y z => ?_, fun i j x y z => ?_, fun i j x y z => ?_, fun i j x y z u => ?_⟩
  · show lt (p (rot s m e i)) (p (rot s m e j))
    rw [r1 i (by omega), r1 j z]; exact h1 i j x y (by omega)
  · show lt (p (rot s m e i)) (p (rot s m e j))
    rw [r2 i x (by omega), r2 j (by omega) z]; exact h2 _ _ (by omega) (by omega) (by omega)
  · show lt (p (rot s m e i)) (p (rot s m e j))
    rw [r3 i x (by omega), r3 j (by omega) z]; exact h1 _ _ (by omega) (by omega) (by omega)
  · show lt (p (rot s m e i)) (p (rot s m e j))
    rw [r4 i x, r4 j (by omega)]; exact h2 _ _ (by omega) (by omega) (by omega)
  · have le1 : ∀ {i j}, a ≤ i → i ≤ j → j < m → p i = p j ∨ lt (p i) (p j) := fun {i j} x y z => by
      by_cases c : i = j
      · exact .inl (by rw [c])
      · exact .inr (h1 i j x (by omega) z)
    have le2 : ∀ {i j}, m ≤ i → i ≤ j → j < b → p i = p j ∨ lt (p i) (p j) := fun {i j} x y z => by
      by_cases c : i = j
      · exact .inl (by rw [c])
      · exact .inr (h2 i j x (by omega) z)
    have tl : ∀ {i j k}, (i = j ∨ lt i j) → lt j k → lt i k := fun {i j k} x y => by
      rcases x with rfl | x
      · exact y
      · exact O.trans x y
    have tr : ∀ {i j k}, lt i j → (j = k ∨ lt j k) → lt i k := fun {i j k} x y => by
      rcases y with rfl | y
      · exact x
      · exact O.trans x y
    by_cases c1 : i < s
    · rw [r1 i c1]
      by_cases c2 : j < e
      · rw [r3 j z c2]
        exact h1 _ _ x (by omega) (by omega)
      · rw [r4 j (by omega)]
        have q := q1 (by omega) (by omega)
        exact tr (tl (le1 x (show i ≤ s - 1 by omega) (by omega)) q) (le2 me (by omega) u)
    · rw [r2 i (by omega) y]
      by_cases c2 : j < e
      · rw [r3 j z c2]
        have q := q2 (by omega) (by omega)
        exact tr (tl (le2 (by omega) (show m + (i - s) ≤ e - 1 by omega) (by omega)) q) (le1 ha (by omega) (by omega))
      · rw [r4 j (by omega)]
        exact h2 _ _ (by omega) (by omega) u
theorem halves {lt : Nat → Nat → Prop} {p q r : Nat → Nat} {a mid b : Nat} (am : a ≤ mid) (mb : mid ≤ b) (h : ∀ i j, a ≤ i → i < mid → mid ≤ j → j < b → lt (p i) (p j)) (k1 : Re a mid p q) (k2 : Re mid b q r) (s1 : Srt lt q a mid) (s2 : Srt lt r mid b) : Srt lt r a b ∧ Re a b p r := by
  refine ⟨Srt.join (m := mid) (s1.congr fun i x y => k2.out (.inl y)) s2 (fun i j x y z u => ?_), (k1.mono (Nat.le_refl _) mb).trans (k2.mono am (Nat.le_refl _))⟩
  obtain ⟨i', hi, e1⟩ := k1.from ⟨x, y⟩
  obtain ⟨j', hj, e2⟩ := k2.from ⟨z, u⟩
  rw [k2.out (.inl y), e1, e2, k1.out (.inr hj.1)]
  exact h i' j' hi.1 hi.2 hj.1 hj.2
end Go.Proofs.YtcdnhhdknkhnkaaGreat.Sym