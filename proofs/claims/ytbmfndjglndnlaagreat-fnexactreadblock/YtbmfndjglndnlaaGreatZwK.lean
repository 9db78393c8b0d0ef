/- Walks of the specification's copies of blocks and records. -/
import Derived.Test.YtbmfndjglndnlaaGreatZwJ
import Derived.Deep.DeepCutAuto
import Derived.Deep.RegionLaw
import Derived.Test.YtbmfndjglndnlaaGreatOwn
import Derived.OrdersHeld
import Derived.Deep.RegionHeld
import Derived.Deep.RegionHeld3
import Derived.Test.YtbmfndjglndnlaaGreatZwE
namespace Go.Proofs.YtbmfndjglndnlaaGreat
open Go.RowKit F256
set_option linter.unusedVariables false
set_option linter.unusedSimpArgs false
set_option maxHeartbeats 4000000 in
set_option maxRecDepth 20000 in
theorem l5CopyBlock_is : ToV layBlock szBlockD 59 := fun cs d hi w r hhi hn => by
  obtain ⟨ao1, cap1, rfl, h1, k0⟩ := Block_rd r
  clear r
  unfold szBlockD lenD at hn
  have Q0 : Hid (-9223372036854775808 ≤ d.stamp ∧ d.stamp ≤ 9223372036854775807) := k0
  clear k0
  have T0 := two_newb w #[.int .i64 d.stamp, .slice ao1 d.bytes.1 cap1] #[.int .i64 0, .slice none 0 0] 46 46
  obtain ⟨W0, hW0⟩ : ∃ x, x = (w.alloc (.cells #[.int .i64 d.stamp, .slice ao1 d.bytes.1 cap1] 46)).alloc (.cells #[.int .i64 0, .slice none 0 0] 46) := ⟨_, rfl⟩
  rw [← hW0] at T0
  have bA : Below W0.heap.size W0 (W0.alloc (.cells #[] 5)) := (Below.refl _ _).alloc (Nat.le_refl _) _
  have TA := T0.call bA
  have z0 : W0.heap.size = w.heap.size + 1 + 1 := by rw [hW0]; simp
  obtain ⟨v', w1, hrun, o1, b1'⟩ := run_appendRB 44 (W0.alloc (.cells #[] 5)).drew W0.heap.size (lit_row W0 5) (layBytes.rd_below (B := hi) (layBytes.rd_below h1 TA.bel hhi) ⟨rfl, rfl, rfl, Nat.le_refl _, fun _ _ => rfl⟩ (Nat.le_refl _)) (show d.bytes.1 ≤ 10000000 by omega)
  have b1 : Below W0.heap.size (W0.alloc (.cells #[] 5)) w1 := ⟨b1'.os, b1'.tape, b1'.output, b1'.size, b1'.block⟩
  obtain ⟨bo, bc, hv⟩ := bytes_formT o1
  obtain rfl := one_eq hv
  have T1 : Two w w1 #[.int .i64 d.stamp, .slice ao1 d.bytes.1 cap1] #[.int .i64 0, .slice none 0 0] 46 46 := ⟨TA.b1.below b1 (by omega), TA.b2.below b1 (by omega), TA.bel.trans (b1.mono (by omega))⟩
  have x0_0 : W0.cell? ⟨w.heap.size, 0, none⟩ = some (.int .i64 d.stamp) := T0.b1.cell 0
  have x0_1 : W0.cell? ⟨w.heap.size, 1, none⟩ = some (.slice ao1 d.bytes.1 cap1) := T0.b1.cell 1
  have xa_0 : (W0.alloc (.cells #[] 5)).cell? ⟨w.heap.size, 0, none⟩ = some (.int .i64 d.stamp) := TA.b1.cell 0
  have xa_1 : (W0.alloc (.cells #[] 5)).cell? ⟨w.heap.size, 1, none⟩ = some (.slice ao1 d.bytes.1 cap1) := TA.b1.cell 1
  have x1_0 : w1.cell? ⟨w.heap.size, 0, none⟩ = some (.int .i64 d.stamp) := T1.b1.cell 0
  have x1_1 : w1.cell? ⟨w.heap.size, 1, none⟩ = some (.slice ao1 d.bytes.1 cap1) := T1.b1.cell 1
  have r1_0 : w1.cell? ⟨w.heap.size + 1, 0, none⟩ = some (.int .i64 0) := T1.b2.cell 0
  have r1f_0 : w1.frozen? ⟨w.heap.size + 1, 0, none⟩ = false := T1.b2.frozen 0
  have r1_1 : w1.cell? ⟨w.heap.size + 1, 1, none⟩ = some (.slice none 0 0) := T1.b2.cell 1
  have r1f_1 : w1.frozen? ⟨w.heap.size + 1, 1, none⟩ = false := T1.b2.frozen 1
  have HO : Hid (OwnT layBytes w1 W0.heap.size w1.heap.size d.bytes [.slice bo d.bytes.1 bc]) := o1
  have HT : Hid (Two w w1 #[.int .i64 d.stamp, .slice ao1 d.bytes.1 cap1] #[.int .i64 0, .slice none 0 0] 46 46) := T1
  have zw : W0.heap.size ≤ w1.heap.size := Nat.le_trans bA.size b1.size
  clear T0 TA T1 o1 b1 b1' bA h1 hv
  go_enter Tryz.func59, Tryz.ntmps59
  go_upto_region 1 with fail
  rw [← hW0]
  clear hW0
  go_region_law (refine step_run2 rfl (.tmp 5) (.tmp 7) rfl ?_ ?_ hrun ?_; (simp [Act.eval, Act.put]); (simp [Act.eval, Act.put]))
  all_goals
    go_wp2
    refine bodyPost_ret (v := .agg #[.int .i64 d.stamp, .slice bo d.bytes.1 bc]) (by simp [results, Tryz.results59, go_sem, r1_0, r1_1]) rfl ?_
    have F : OwnT layBlock w1 (w.heap.size + 1 + 1) w1.heap.size d ([.int .i64 d.stamp] ++ [.slice bo d.bytes.1 bc]) := OwnT.conv (OwnT.pre (A := layI) (a := d.stamp) (c := [.int .i64 d.stamp]) ⟨rfl, Q0.out, rfl⟩ (HO.out.weaken (by omega) (Nat.le_refl _)))
    refine ⟨[.int .i64 d.stamp, .slice bo d.bytes.1 bc], rfl, ?_, ?_⟩
    · exact OwnT.finb F (b := w.heap.size + 1) (by omega) (by omega) 0 [.int .i64 d.stamp, .slice bo d.bytes.1 bc] _ rfl
    · exact HT.out.bel.trans (stN_below (by omega) [.int .i64 d.stamp, .slice bo d.bytes.1 bc] 0)
set_option maxHeartbeats 8000000 in
set_option maxRecDepth 20000 in
theorem l5CopyRec_is : ToV layRec szRecD 112 := fun cs d hi w r hhi hn => by
  obtain ⟨ao6, cap6, ao7, cap7, ao8, cap8, rfl, h6, h7, h8, k0, k1, k2, k3, k4, k5⟩ := Rec_rd r
  clear r
  unfold szRecD lenD at hn
  have Q0 : Hid (-9223372036854775808 ≤ d.kind ∧ d.kind ≤ 9223372036854775807) := k0
  have Q1 : Hid (-9223372036854775808 ≤ d.seq ∧ d.seq ≤ 9223372036854775807) := k1
  have Q3 : Hid (-9223372036854775808 ≤ d.length ∧ d.length ≤ 9223372036854775807) := k3
  have Q4 : Hid (-9223372036854775808 ≤ d.group ∧ d.group ≤ 9223372036854775807) := k4
  have Q5 : Hid (-9223372036854775808 ≤ d.row ∧ d.row ≤ 9223372036854775807) := k5
  have Q2 : Hid (d.name.size ≤ maxLen) := k2
  clear k0 k1 k2 k3 k4 k5
  have T0 := two_newb w #[.int .i64 d.kind, .int .i64 d.seq, .string d.name, .int .i64 d.length, .int .i64 d.group, .int .i64 d.row, .slice ao6 d.rows.1 cap6, .slice ao7 d.data.1 cap7, .slice ao8 d.delta.1 cap8] #[.int .i64 0, .int .i64 0, .string ⟨#[]⟩, .int .i64 0, .int .i64 0, .int .i64 0, .slice none 0 0, .slice none 0 0, .slice none 0 0] 119 119
  go_enter Tryz.func112, Tryz.ntmps112
  go_upto_region 1 with fail
  obtain ⟨W0, hW0⟩ : ∃ x, x = (w.alloc (.cells #[.int .i64 d.kind, .int .i64 d.seq, .string d.name, .int .i64 d.length, .int .i64 d.group, .int .i64 d.row, .slice ao6 d.rows.1 cap6, .slice ao7 d.data.1 cap7, .slice ao8 d.delta.1 cap8] 119)).alloc (.cells #[.int .i64 0, .int .i64 0, .string ⟨#[]⟩, .int .i64 0, .int .i64 0, .int .i64 0, .slice none 0 0, .slice none 0 0, .slice none 0 0] 119) := ⟨_, rfl⟩
  have z0 : W0.heap.size = w.heap.size + 1 + 1 := by rw [hW0]; simp
  rw [← hW0] at T0 ⊢
  clear hW0
  have bA0 : Below W0.heap.size W0 (W0.alloc (.cells #[] 2)) := (Below.refl _ _).alloc (Nat.le_refl _) _
  have TA0 := T0.call bA0
  obtain ⟨v', w1, hrun, o0, b0⟩ := run_appendRI 25 (W0.alloc (.cells #[] 2)) W0.heap.size (lit_row W0 2) (layInts.rd_below h6 TA0.bel hhi) (show d.rows.1 ≤ 10000000 by omega)
  obtain ⟨bo6, bcap6, hv⟩ := ints_formT o0
  obtain rfl := one_eq hv
  clear hv
  have zw0 : W0.heap.size + 1 ≤ w1.heap.size := Nat.le_trans (by simp) b0.size
  have TB0 : Two w w1 #[.int .i64 d.kind, .int .i64 d.seq, .string d.name, .int .i64 d.length, .int .i64 d.group, .int .i64 d.row, .slice ao6 d.rows.1 cap6, .slice ao7 d.data.1 cap7, .slice ao8 d.delta.1 cap8] #[.int .i64 0, .int .i64 0, .string ⟨#[]⟩, .int .i64 0, .int .i64 0, .int .i64 0, .slice none 0 0, .slice none 0 0, .slice none 0 0] 119 119 := ⟨TA0.b1.below b0 (by omega), TA0.b2.below b0 (by omega), TA0.bel.trans (b0.mono (by omega))⟩
  have xa : (W0.alloc (.cells #[] 2)).cell? ⟨w.heap.size, 6, none⟩ = some (.slice ao6 d.rows.1 cap6) := TA0.b1.cell 6
  have xb : w1.cell? ⟨w.heap.size, 6, none⟩ = some (.slice ao6 d.rows.1 cap6) := TB0.b1.cell 6
  have xf : w1.frozen? ⟨w.heap.size, 6, none⟩ = false := TB0.b1.frozen 6
  have T1 : Two w (w1.setCell ⟨w.heap.size, 6, none⟩ (.slice bo6 d.rows.1 bcap6)) #[.int .i64 d.kind, .int .i64 d.seq, .string d.name, .int .i64 d.length, .int .i64 d.group, .int .i64 d.row, .slice bo6 d.rows.1 bcap6, .slice ao7 d.data.1 cap7, .slice ao8 d.delta.1 cap8] #[.int .i64 0, .int .i64 0, .string ⟨#[]⟩, .int .i64 0, .int .i64 0, .int .i64 0, .slice none 0 0, .slice none 0 0, .slice none 0 0] 119 119 := ⟨TB0.b1.stL [.slice bo6 d.rows.1 bcap6] 6, TB0.b2.seto _ _ (by omega), TB0.bel.setCell (Nat.le_refl _) _⟩
  have O6x := o0.stN w.heap.size 6 [.slice bo6 d.rows.1 bcap6] (by omega)
  have e0 : (w1.setCell ⟨w.heap.size, 6, none⟩ (.slice bo6 d.rows.1 bcap6)).heap.size = w1.heap.size := by simp
  clear TA0 TB0 o0 b0 bA0 T0
  go_upto_region 2 with (at_builtin; refine wp_run2 rfl (.tmp 3) (.tmp 5) rfl ?_ ?_ hrun ?_; (simp [Act.eval]); (simp [Act.eval]))
  obtain ⟨W1, hW1⟩ : ∃ x, x = w1.setCell ⟨w.heap.size, 6, none⟩ (.slice bo6 d.rows.1 bcap6) := ⟨_, rfl⟩
  have O6 : Hid (OwnT layInts W1 W0.heap.size w1.heap.size d.rows [.slice bo6 d.rows.1 bcap6]) := by rw [hW1]; exact O6x
  rw [← hW1] at T1 e0 ⊢
  clear hW1 hrun xa xb xf O6x
  have bA1 : Below W1.heap.size W1 (W1.alloc (.cells #[] 5)) := (Below.refl _ _).alloc (Nat.le_refl _) _
  have TA1 := T1.call bA1
  obtain ⟨v', w2, hrun, o1, b1⟩ := run_appendRB 44 (W1.alloc (.cells #[] 5)) W1.heap.size (lit_row W1 5) (layBytes.rd_below h7 TA1.bel hhi) (show d.data.1 ≤ 10000000 by omega)
  obtain ⟨bo7, bcap7, hv⟩ := bytes_formT o1
  obtain rfl := one_eq hv
  clear hv
  have zw1 : W1.heap.size + 1 ≤ w2.heap.size := Nat.le_trans (by simp) b1.size
  have TB1 : Two w w2 #[.int .i64 d.kind, .int .i64 d.seq, .string d.name, .int .i64 d.length, .int .i64 d.group, .int .i64 d.row, .slice bo6 d.rows.1 bcap6, .slice ao7 d.data.1 cap7, .slice ao8 d.delta.1 cap8] #[.int .i64 0, .int .i64 0, .string ⟨#[]⟩, .int .i64 0, .int .i64 0, .int .i64 0, .slice none 0 0, .slice none 0 0, .slice none 0 0] 119 119 := ⟨TA1.b1.below b1 (by omega), TA1.b2.below b1 (by omega), TA1.bel.trans (b1.mono (by omega))⟩
  have xa : (W1.alloc (.cells #[] 5)).cell? ⟨w.heap.size, 7, none⟩ = some (.slice ao7 d.data.1 cap7) := TA1.b1.cell 7
  have xb : w2.cell? ⟨w.heap.size, 7, none⟩ = some (.slice ao7 d.data.1 cap7) := TB1.b1.cell 7
  have xf : w2.frozen? ⟨w.heap.size, 7, none⟩ = false := TB1.b1.frozen 7
  have T2 : Two w (w2.setCell ⟨w.heap.size, 7, none⟩ (.slice bo7 d.data.1 bcap7)) #[.int .i64 d.kind, .int .i64 d.seq, .string d.name, .int .i64 d.length, .int .i64 d.group, .int .i64 d.row, .slice bo6 d.rows.1 bcap6, .slice bo7 d.data.1 bcap7, .slice ao8 d.delta.1 cap8] #[.int .i64 0, .int .i64 0, .string ⟨#[]⟩, .int .i64 0, .int .i64 0, .int .i64 0, .slice none 0 0, .slice none 0 0, .slice none 0 0] 119 119 := ⟨TB1.b1.stL [.slice bo7 d.data.1 bcap7] 7, TB1.b2.seto _ _ (by omega), TB1.bel.setCell (Nat.le_refl _) _⟩
  have O6x := ((O6.out.call bA1).below b1 (by omega)).stN w.heap.size 7 [.slice bo7 d.data.1 bcap7] (by omega)
  have O7x := o1.stN w.heap.size 7 [.slice bo7 d.data.1 bcap7] (by omega)
  have e1 : (w2.setCell ⟨w.heap.size, 7, none⟩ (.slice bo7 d.data.1 bcap7)).heap.size = w2.heap.size := by simp
  clear TA1 TB1 o1 b1 bA1 T1 O6
  go_upto_region 3 with (at_builtin; refine wp_run2 rfl (.tmp 8) (.tmp 10) rfl ?_ ?_ hrun ?_; (simp [Act.eval]); (simp [Act.eval]))
  obtain ⟨W2, hW2⟩ : ∃ x, x = w2.setCell ⟨w.heap.size, 7, none⟩ (.slice bo7 d.data.1 bcap7) := ⟨_, rfl⟩
  have O6 : Hid (OwnT layInts W2 W0.heap.size w1.heap.size d.rows [.slice bo6 d.rows.1 bcap6]) := by rw [hW2]; exact O6x
  have O7 : Hid (OwnT layBytes W2 W1.heap.size w2.heap.size d.data [.slice bo7 d.data.1 bcap7]) := by rw [hW2]; exact O7x
  rw [← hW2] at T2 e1 ⊢
  clear hW2 hrun xa xb xf O6x O7x
  have bA2 : Below W2.heap.size W2 (W2.alloc (.cells #[] 5)) := (Below.refl _ _).alloc (Nat.le_refl _) _
  have TA2 := T2.call bA2
  obtain ⟨v', w3, hrun, o2, b2⟩ := run_appendRB 44 (W2.alloc (.cells #[] 5)) W2.heap.size (lit_row W2 5) (layBytes.rd_below h8 TA2.bel hhi) (show d.delta.1 ≤ 10000000 by omega)
  obtain ⟨bo8, bcap8, hv⟩ := bytes_formT o2
  obtain rfl := one_eq hv
  clear hv
  have zw2 : W2.heap.size + 1 ≤ w3.heap.size := Nat.le_trans (by simp) b2.size
  have TB2 : Two w w3 #[.int .i64 d.kind, .int .i64 d.seq, .string d.name, .int .i64 d.length, .int .i64 d.group, .int .i64 d.row, .slice bo6 d.rows.1 bcap6, .slice bo7 d.data.1 bcap7, .slice ao8 d.delta.1 cap8] #[.int .i64 0, .int .i64 0, .string ⟨#[]⟩, .int .i64 0, .int .i64 0, .int .i64 0, .slice none 0 0, .slice none 0 0, .slice none 0 0] 119 119 := ⟨TA2.b1.below b2 (by omega), TA2.b2.below b2 (by omega), TA2.bel.trans (b2.mono (by omega))⟩
  have xa : (W2.alloc (.cells #[] 5)).cell? ⟨w.heap.size, 8, none⟩ = some (.slice ao8 d.delta.1 cap8) := TA2.b1.cell 8
  have xb : w3.cell? ⟨w.heap.size, 8, none⟩ = some (.slice ao8 d.delta.1 cap8) := TB2.b1.cell 8
  have xf : w3.frozen? ⟨w.heap.size, 8, none⟩ = false := TB2.b1.frozen 8
  have T3 : Two w (w3.setCell ⟨w.heap.size, 8, none⟩ (.slice bo8 d.delta.1 bcap8)) #[.int .i64 d.kind, .int .i64 d.seq, .string d.name, .int .i64 d.length, .int .i64 d.group, .int .i64 d.row, .slice bo6 d.rows.1 bcap6, .slice bo7 d.data.1 bcap7, .slice bo8 d.delta.1 bcap8] #[.int .i64 0, .int .i64 0, .string ⟨#[]⟩, .int .i64 0, .int .i64 0, .int .i64 0, .slice none 0 0, .slice none 0 0, .slice none 0 0] 119 119 := ⟨TB2.b1.stL [.slice bo8 d.delta.1 bcap8] 8, TB2.b2.seto _ _ (by omega), TB2.bel.setCell (Nat.le_refl _) _⟩
  have O6x := ((O6.out.call bA2).below b2 (by omega)).stN w.heap.size 8 [.slice bo8 d.delta.1 bcap8] (by omega)
  have O7x := ((O7.out.call bA2).below b2 (by omega)).stN w.heap.size 8 [.slice bo8 d.delta.1 bcap8] (by omega)
  have O8x := o2.stN w.heap.size 8 [.slice bo8 d.delta.1 bcap8] (by omega)
  have e2 : (w3.setCell ⟨w.heap.size, 8, none⟩ (.slice bo8 d.delta.1 bcap8)).heap.size = w3.heap.size := by simp
  clear TA2 TB2 o2 b2 bA2 T2 O6 O7
  go_upto_region 4 with (at_builtin; refine wp_run2 rfl (.tmp 13) (.tmp 15) rfl ?_ ?_ hrun ?_; (simp [Act.eval]); (simp [Act.eval]))
  obtain ⟨W3, hW3⟩ : ∃ x, x = w3.setCell ⟨w.heap.size, 8, none⟩ (.slice bo8 d.delta.1 bcap8) := ⟨_, rfl⟩
  have O6 : Hid (OwnT layInts W3 W0.heap.size w1.heap.size d.rows [.slice bo6 d.rows.1 bcap6]) := by rw [hW3]; exact O6x
  have O7 : Hid (OwnT layBytes W3 W1.heap.size w2.heap.size d.data [.slice bo7 d.data.1 bcap7]) := by rw [hW3]; exact O7x
  have O8 : Hid (OwnT layBytes W3 W2.heap.size w3.heap.size d.delta [.slice bo8 d.delta.1 bcap8]) := by rw [hW3]; exact O8x
  rw [← hW3] at T3 e2 ⊢
  clear hW3 hrun xa xb xf O6x O7x O8x
  have y_0 : W3.cell? ⟨w.heap.size, 0, none⟩ = some (.int .i64 d.kind) := T3.b1.cell 0
  have y_1 : W3.cell? ⟨w.heap.size, 1, none⟩ = some (.int .i64 d.seq) := T3.b1.cell 1
  have y_2 : W3.cell? ⟨w.heap.size, 2, none⟩ = some (.string d.name) := T3.b1.cell 2
  have y_3 : W3.cell? ⟨w.heap.size, 3, none⟩ = some (.int .i64 d.length) := T3.b1.cell 3
  have y_4 : W3.cell? ⟨w.heap.size, 4, none⟩ = some (.int .i64 d.group) := T3.b1.cell 4
  have y_5 : W3.cell? ⟨w.heap.size, 5, none⟩ = some (.int .i64 d.row) := T3.b1.cell 5
  have y_6 : W3.cell? ⟨w.heap.size, 6, none⟩ = some (.slice bo6 d.rows.1 bcap6) := T3.b1.cell 6
  have y_7 : W3.cell? ⟨w.heap.size, 7, none⟩ = some (.slice bo7 d.data.1 bcap7) := T3.b1.cell 7
  have y_8 : W3.cell? ⟨w.heap.size, 8, none⟩ = some (.slice bo8 d.delta.1 bcap8) := T3.b1.cell 8
  have r_0 : W3.cell? ⟨w.heap.size + 1, 0, none⟩ = some (.int .i64 0) := T3.b2.cell 0
  have rf_0 : W3.frozen? ⟨w.heap.size + 1, 0, none⟩ = false := T3.b2.frozen 0
  have r_1 : W3.cell? ⟨w.heap.size + 1, 1, none⟩ = some (.int .i64 0) := T3.b2.cell 1
  have rf_1 : W3.frozen? ⟨w.heap.size + 1, 1, none⟩ = false := T3.b2.frozen 1
  have r_2 : W3.cell? ⟨w.heap.size + 1, 2, none⟩ = some (.string ⟨#[]⟩) := T3.b2.cell 2
  have rf_2 : W3.frozen? ⟨w.heap.size + 1, 2, none⟩ = false := T3.b2.frozen 2
  have r_3 : W3.cell? ⟨w.heap.size + 1, 3, none⟩ = some (.int .i64 0) := T3.b2.cell 3
  have rf_3 : W3.frozen? ⟨w.heap.size + 1, 3, none⟩ = false := T3.b2.frozen 3
  have r_4 : W3.cell? ⟨w.heap.size + 1, 4, none⟩ = some (.int .i64 0) := T3.b2.cell 4
  have rf_4 : W3.frozen? ⟨w.heap.size + 1, 4, none⟩ = false := T3.b2.frozen 4
  have r_5 : W3.cell? ⟨w.heap.size + 1, 5, none⟩ = some (.int .i64 0) := T3.b2.cell 5
  have rf_5 : W3.frozen? ⟨w.heap.size + 1, 5, none⟩ = false := T3.b2.frozen 5
  have r_6 : W3.cell? ⟨w.heap.size + 1, 6, none⟩ = some (.slice none 0 0) := T3.b2.cell 6
  have rf_6 : W3.frozen? ⟨w.heap.size + 1, 6, none⟩ = false := T3.b2.frozen 6
  have r_7 : W3.cell? ⟨w.heap.size + 1, 7, none⟩ = some (.slice none 0 0) := T3.b2.cell 7
  have rf_7 : W3.frozen? ⟨w.heap.size + 1, 7, none⟩ = false := T3.b2.frozen 7
  have r_8 : W3.cell? ⟨w.heap.size + 1, 8, none⟩ = some (.slice none 0 0) := T3.b2.cell 8
  have rf_8 : W3.frozen? ⟨w.heap.size + 1, 8, none⟩ = false := T3.b2.frozen 8
  have HB : Hid (Below w.heap.size w W3) := T3.bel
  clear T3
  go_wp2
  refine bodyPost_ret (v := .agg #[.int .i64 d.kind, .int .i64 d.seq, .string d.name, .int .i64 d.length, .int .i64 d.group, .int .i64 d.row, .slice bo6 d.rows.1 bcap6, .slice bo7 d.data.1 bcap7, .slice bo8 d.delta.1 bcap8]) (by simp [results, Tryz.results112, go_sem, r_0, y_0, r_1, y_1, r_2, y_2, r_3, y_3, r_4, y_4, r_5, y_5, r_6, y_6, r_7, y_7, r_8, y_8]) rfl ?_
  have F : OwnT layRec W3 (w.heap.size + 1 + 1) W3.heap.size d ([.int .i64 d.kind] ++ ([.int .i64 d.seq] ++ ([.string d.name] ++ ([.int .i64 d.length] ++ ([.int .i64 d.group] ++ ([.int .i64 d.row] ++ ([.slice bo6 d.rows.1 bcap6] ++ ([.slice bo7 d.data.1 bcap7] ++ [.slice bo8 d.delta.1 bcap8])))))))) := OwnT.conv (OwnT.pre (A := layI) (a := d.kind) (c := [.int .i64 d.kind]) ⟨rfl, Q0.out, rfl⟩ (OwnT.pre (A := layI) (a := d.seq) (c := [.int .i64 d.seq]) ⟨rfl, Q1.out, rfl⟩ (OwnT.pre (A := layS) (a := d.name) (c := [.string d.name]) ⟨rfl, Q2.out, rfl⟩ (OwnT.pre (A := layI) (a := d.length) (c := [.int .i64 d.length]) ⟨rfl, Q3.out, rfl⟩ (OwnT.pre (A := layI) (a := d.group) (c := [.int .i64 d.group]) ⟨rfl, Q4.out, rfl⟩ (OwnT.pre (A := layI) (a := d.row) (c := [.int .i64 d.row]) ⟨rfl, Q5.out, rfl⟩ (OwnT.two (O6.out.weaken (by omega) (Nat.le_refl _)) (OwnT.two O7.out (O8.out.weaken (Nat.le_refl _) (by omega)) (by omega) (by omega) (by omega)) (by omega) (by omega) (by omega))))))))
  refine ⟨[.int .i64 d.kind, .int .i64 d.seq, .string d.name, .int .i64 d.length, .int .i64 d.group, .int .i64 d.row, .slice bo6 d.rows.1 bcap6, .slice bo7 d.data.1 bcap7, .slice bo8 d.delta.1 bcap8], rfl, ?_, ?_⟩
  · exact OwnT.finb F (b := w.heap.size + 1) (by omega) (by omega) 0 [.int .i64 d.kind, .int .i64 d.seq, .string d.name, .int .i64 d.length, .int .i64 d.group, .int .i64 d.row, .slice bo6 d.rows.1 bcap6, .slice bo7 d.data.1 bcap7, .slice bo8 d.delta.1 bcap8] _ rfl
  · exact HB.out.trans (stN_below (by omega) [.int .i64 d.kind, .int .i64 d.seq, .string d.name, .int .i64 d.length, .int .i64 d.group, .int .i64 d.row, .slice bo6 d.rows.1 bcap6, .slice bo7 d.data.1 bcap7, .slice bo8 d.delta.1 bcap8] 0)
set_option maxHeartbeats 8000000 in
set_option maxRecDepth 20000 in
theorem l5CopyRecs_is : ToS (layRec.slice 119) (szSl szRecD) 74 := fun v d hi w h hhi hn => by
  obtain ⟨n, x⟩ := d
  obtain ⟨ao, cap, hv, hm, hc⟩ := h
  cases hv
  have hn1 := szSl_n hn
  have hn2 : ∀ i, i < n → szRecD (x i) ≤ 1048576 := fun i hi => szSl_at hn hi
  simp only at hn1 hm hc
  have HC : Hid (n ≠ 0 → ∃ b off, ao = some ⟨b, off, none⟩ ∧ b < hi ∧ ∀ i, i < n → ∃ ce, layRec.rd w hi (x i) ce ∧ ∀ j, j < layRec.sz → w.cell? ⟨b, off + (i * layRec.sz + j), none⟩ = ce[j]?) := hc
  clear hn hc
  go_enter Tryz.func74, Tryz.ntmps74
  go_wp2
  go_loopw [3, 4] (fun v i wr => ∃ (k : Nat) (ao' : Option Addr) (cap' : Nat), k ≤ n ∧ i = .int .i64 k ∧ v = .slice ao' k cap' ∧ Gat layRec 119 wr w.heap.size (.slice ao' k cap') k x ∧ Below w.heap.size w wr) (fun _ i _ => n - (intOf i).toNat)
  case atStart => exact ⟨0, _, _, Nat.zero_le _, rfl, rfl, gat_lit0 _ _, (Below.refl _ _).alloc (Nat.le_refl _) _⟩
  case round =>
    obtain ⟨k, ao', cap', hk, rfl, rfl, G, hb⟩ := hrel
    obtain ⟨wo, rfl⟩ : ∃ y, y = wr := ⟨_, rfl⟩
    have HG : Hid (Gat layRec 119 wo w.heap.size (.slice ao' k cap') k x) := G
    have HB : Hid (Below w.heap.size w wo) := hb
    have zo : w.heap.size ≤ wo.heap.size := hb.size
    clear G
    by_cases hlt : k < n
    · obtain ⟨b, off, he, hblt, hel⟩ := HC.out (by omega)
      subst he
      obtain ⟨ck, hrk, hcell⟩ := elem_rd (t := 0) hel hb hhi hblt hlt
      obtain ⟨ao6, cap6, ao7, cap7, ao8, cap8, rfl, -⟩ := Rec_rd hrk
      have c0 : wo.cell? ⟨b, off + k * 9, none⟩ = some (.int .i64 (x k).kind) := hcell 0 (by decide)
      have c1 : wo.cell? ⟨b, off + k * 9 + 1, none⟩ = some (.int .i64 (x k).seq) := hcell 1 (by decide)
      have c2 : wo.cell? ⟨b, off + k * 9 + 2, none⟩ = some (.string (x k).name) := hcell 2 (by decide)
      have c3 : wo.cell? ⟨b, off + k * 9 + 3, none⟩ = some (.int .i64 (x k).length) := hcell 3 (by decide)
      have c4 : wo.cell? ⟨b, off + k * 9 + 4, none⟩ = some (.int .i64 (x k).group) := hcell 4 (by decide)
      have c5 : wo.cell? ⟨b, off + k * 9 + 5, none⟩ = some (.int .i64 (x k).row) := hcell 5 (by decide)
      have c6 : wo.cell? ⟨b, off + k * 9 + 6, none⟩ = some (.slice ao6 (x k).rows.1 cap6) := hcell 6 (by decide)
      have c7 : wo.cell? ⟨b, off + k * 9 + 7, none⟩ = some (.slice ao7 (x k).data.1 cap7) := hcell 7 (by decide)
      have c8 : wo.cell? ⟨b, off + k * 9 + 8, none⟩ = some (.slice ao8 (x k).delta.1 cap8) := hcell 8 (by decide)
      have C := l5CopyRec_is _ (x k) hi wo hrk (Nat.le_trans hhi zo) (hn2 k hlt)
      clear hel hcell hrk hb
      go_wp2_with fail
      refine C.mono ?_
      rintro e w2 ⟨cs', rfl, o2, b2⟩
      obtain ⟨bo6, bc6, bo7, bc7, bo8, bc8, rfl⟩ := Rec_cells o2
      clear C c0 c1 c2 c3 c4 c5 c6 c7 c8
      go_wp2_with (at_builtin; refine wp_appendN el_Rec rfl (.tmp 12) (.tmp 18) rfl (lo := w.heap.size) (n := k) (v := .slice ao' k cap') (x := x) ?_ HG.out b2 o2 ?_ w2.heap.size 1 ?_ (fun j _ => cells_new w2 _ _ j) (by omega) (by omega) ?_; (simp [Act.eval]); (exact (Below.refl _ _).alloc (Nat.le_refl _) _); (simp [Act.eval]); intro v4 w4 g4 b4; obtain ⟨ao4, cap4, rfl⟩ := g4.form)
      go_roundw
      case rel => exact ⟨k + 1, ao4, cap4, by omega, by go_num, rfl, g4.congr (fun i _ => by rw [upd_self]), HB.out.trans b4⟩
      case measure => simp [intOf]; omega
    · obtain rfl : k = n := by omega
      clear hb
      go_wp2
      go_ret
      exact ⟨_, rfl, HG.out.own, HB.out⟩
end Go.Proofs.YtbmfndjglndnlaaGreat

namespace Go.Proofs.YtbmfndjglndnlaaGreat
open Go.RowKit
set_option linter.unusedVariables false
section
variable {P : Program} {ops : Array Oper} {Q : Exit → Act → World → Prop} {md : Region.Mode} {S : World → Prop} {L : Nat}
/-- whatever order is picked; S holds behind every operation but L -/
def wpAnyL (P : Program) (md : Region.Mode) (ops : Array Oper) (Q : Exit → Act → World → Prop) (S : World → Prop) (L : Nat) : Nat → Array Bool → Act → World → Prop
  | 0, listed, a, w => Region.ready md ops listed = [] ∧ Q .normal a w
  | fuel + 1, listed, a, w =>
    (Region.ready md ops listed = [] → Q .normal a w) ∧
    ∀ i ∈ Region.ready md ops listed, wpOp P ops Q i (fun a' w' => (i ≠ L → S w') ∧ wpAnyL P md ops Q S L fuel (listed.setIfInBounds i true) a' w') a w
theorem wpAny_of_L : ∀ (fuel : Nat) (listed : Array Bool) (a : Act) (w : World), wpAnyL P md ops Q S L fuel listed a w → wpAny P md ops Q fuel listed a w
  | 0, _, _, _, h => h
  | fuel + 1, _, _, _, h => ⟨h.1, fun i hi => wpOp_mono (fun a' w' h' => wpAny_of_L fuel _ a' w' h'.2) (h.2 i hi)⟩
/-- what has come up came behind all that it waits for -/
def ClosedP (md : Region.Mode) (ops : Array Oper) (listed : Array Bool) : Prop :=
  ∀ j oj, ops[j]? = some oj → listed.getD j false = true → ∀ e ∈ oj.after, Region.binds md e = true → listed.getD e.on false = true
def closedB (md : Region.Mode) (ops : Array Oper) (listed : Array Bool) : Bool :=
  (List.range ops.size).all fun j => !listed.getD j false || ((ops[j]?).map (·.after.all fun e => !Region.binds md e || listed.getD e.on false)).getD false
theorem closed_of {listed : Array Bool} (h : closedB md ops listed = true) : ClosedP md ops listed := fun j oj hj hl e he hb => by
  unfold closedB at h
  have hlt : j < ops.size := (Array.getElem?_eq_some_iff.1 hj).1
  have h1 := List.all_eq_true.1 h j (List.mem_range.2 hlt)
  rw [hl, hj] at h1
  simp only [Bool.not_true, Bool.false_or, Option.map_some, Option.getD_some, Array.all_eq_true_iff_forall_mem] at h1
  have h2 := h1 e he
  rw [hb] at h2
  simpa using h2
theorem closed_step {listed : Array Bool} {j : Nat} (h : ClosedP md ops listed) (hj : j ∈ Region.ready md ops listed) : ClosedP md ops (listed.setIfInBounds j true) := fun k ok hk hl e he hb => by
  obtain ⟨_, o, ho, hall⟩ := mem_ready.1 hj
  by_cases c : j = k
  · subst c
    rw [hk] at ho
    cases ho
    exact getD_set_true (hall e he hb)
  · rw [getD_set_ne false c] at hl
    exact getD_set_true (h k ok hk hl e he hb)
/-- l waits for i, over so many steps -/
def depB (md : Region.Mode) (ops : Array Oper) : Nat → Nat → Nat → Bool
  | 0, l, i => l == i
  | n + 1, l, i => l == i || ((ops[l]?).map (·.after.any fun e => Region.binds md e && depB md ops n e.on i)).getD false
theorem dep_listed {listed : Array Bool} (hc : ClosedP md ops listed) : ∀ (n l i : Nat), depB md ops n l i = true → listed.getD l false = true → listed.getD i false = true
  | 0, l, i, h, hl => by
    unfold depB at h
    have : l = i := by simpa using h
    rw [← this]; exact hl
  | n + 1, l, i, h, hl => by
    unfold depB at h
    rcases Bool.or_eq_true _ _ ▸ h with h1 | h1
    · have : l = i := by simpa using h1
      rw [← this]; exact hl
    · cases ho : ops[l]? with
      | none => rw [ho] at h1; simp at h1
      | some o =>
        rw [ho] at h1
        simp only [Option.map_some, Option.getD_some] at h1
        obtain ⟨k, hk, hbk⟩ := Array.any_eq_true.1 h1
        obtain ⟨hb, hd⟩ := Bool.and_eq_true _ _ ▸ hbk
        exact dep_listed hc n _ i hd (hc l o ho hl _ (Array.getElem_mem hk) hb)
theorem dep_waits {listed : Array Bool} (hc : ClosedP md ops listed) {n i : Nat} (hne : L ≠ i) (hd : depB md ops n L i = true) (hi : listed.getD i false = false) : L ∉ Region.ready md ops listed := fun hL => by
  obtain ⟨_, o, ho, hall⟩ := mem_ready.1 hL
  cases n with
  | zero => unfold depB at hd; exact hne (by simpa using hd)
  | succ n =>
    unfold depB at hd
    rcases Bool.or_eq_true _ _ ▸ hd with h1 | h1
    · exact hne (by simpa using h1)
    · rw [ho] at h1
      simp only [Option.map_some, Option.getD_some] at h1
      obtain ⟨k, hk, hbk⟩ := Array.any_eq_true.1 h1
      obtain ⟨hb, hd'⟩ := Bool.and_eq_true _ _ ▸ hbk
      have := dep_listed hc n _ i hd' (hall _ (Array.getElem_mem hk) hb)
      rw [hi] at this
      cases this
theorem unlisted_false {listed : Array Bool} {i : Nat} (h : listed.getD i true = false) : listed.getD i false = false := by
  rcases Nat.lt_or_ge i listed.size with h' | h'
  · simpa [h'] using h
  · simp [Array.getElem?_eq_none h'] at h
theorem wpAnyL_first {i : Nat} {oi : Oper} {v : Value} (hi : ops[i]? = some oi) (hsel : ∀ (j : Nat) (o : Oper) cs b, ops[j]? = some o → o.op ≠ .select cs b)
    (hQ : ∀ c a w, Q (.panic c) (a.put oi.dst v) w → Q (.panic c) a w) (hLi : L ≠ i) {n : Nat} (hd : depB md ops n L i = true) :
    ∀ (fuel : Nat) (listed : Array Bool) (a : Act) (w : World), ClosedP md ops listed →
      (∀ j oj, ops[j]? = some oj → j ≠ i → listed.getD j true = false → (∀ e ∈ oj.after, Region.binds md e = true → e.on ≠ i) → oi.apart ops oj = true) →
      i ∈ Region.ready md ops listed → YieldsIf P ops S oi v a → S w →
      wpAnyL P md ops Q S L fuel (listed.setIfInBounds i true) (a.put oi.dst v) w → wpAnyL P md ops Q S L (fuel + 1) listed a w := by
  intro fuel
  induction fuel with
  | zero =>
    intro listed a w _ _ hr hy hS H
    refine ⟨fun h => (by rw [h] at hr; cases hr), fun j hj => ?_⟩
    by_cases hji : j = i
    · subst hji; exact hy.wpOp hi hS ⟨fun _ => hS, H⟩
    · have := ready_mono hj hji
      rw [H.1] at this
      cases this
  | succ fuel ih =>
    intro listed a w hcl hfree hr hy hS H
    refine ⟨fun h => (by rw [h] at hr; cases hr), fun j hj => ?_⟩
    by_cases hji : j = i
    · subst hji; exact hy.wpOp hi hS ⟨fun _ => hS, H⟩
    · have hjL : j ≠ L := fun h => by
        subst h
        exact dep_waits hcl hLi hd (unlisted_false (mem_ready.1 hr).1) hj
      have h1 := H.2 j (ready_mono hj hji)
      obtain ⟨hjun, oj, hoj, hall⟩ := mem_ready.1 hj
      have hnot : ∀ e ∈ oj.after, Region.binds md e = true → e.on ≠ i := fun e he hb heq => by
        have h1 := hall e he hb
        have h0 := unlisted_false (mem_ready.1 hr).1
        rw [heq, h0] at h1
        cases h1
      have h2 := wpOp_putIf hoj (hfree j oj hoj hji hjun hnot) (fun cs b => hsel i oi cs b hi) (fun cs b => hsel j oj cs b hoj) hQ hy h1
      have hfree' : ∀ k ok, ops[k]? = some ok → k ≠ i → (listed.setIfInBounds j true).getD k true = false →
          (∀ e ∈ ok.after, Region.binds md e = true → e.on ≠ i) → oi.apart ops ok = true := fun k ok hk hki hun hno => by
        refine hfree k ok hk hki ?_ hno
        by_cases hjk : j = k
        · subst hjk; exact hjun
        · rw [getD_set_ne true hjk] at hun; exact hun
      refine wpOp_mono (fun a' w' h3 => ⟨h3.2.1, ih (listed.setIfInBounds j true) a' w' (closed_step hcl hj) hfree' (ready_mono hr (Ne.symm hji)) h3.1 (h3.2.1 hjL) ?_⟩) h2
      rw [Array.setIfInBounds_comm _ _ hji]
      exact h3.2.2
/-- take number i first -/
theorem wpAnyL_take {i : Nat} {oi : Oper} {v : Value} {fuel : Nat} {listed : Array Bool} {a : Act} {w : World} (n : Nat) (hi : ops[i]? = some oi)
    (hs : (Region.noSelect ops && Region.free md ops listed i && (Region.ready md ops listed).contains i && !(L == i) && depB md ops n L i && closedB md ops listed) = true)
    (hQ : ∀ c a w, Q (.panic c) (a.put oi.dst v) w → Q (.panic c) a w) (hy : YieldsIf P ops S oi v a) (hS : S w)
    (h : wpAnyL P md ops Q S L fuel (listed.setIfInBounds i true) (a.put oi.dst v) w) : wpAnyL P md ops Q S L (fuel + 1) listed a w := by
  simp only [Bool.and_eq_true, Bool.not_eq_true', beq_eq_false_iff_ne] at hs
  obtain ⟨⟨⟨⟨⟨h1, h2⟩, h3⟩, h4⟩, h5⟩, h6⟩ := hs
  exact wpAnyL_first hi (Region.noSelect_spec h1) hQ h4 h5 fuel listed a w (closed_of h6) (Region.free_spec hi h2) (by simpa using h3) hy hS h
/-- one operation alone may come up, and S holds behind it -/
theorem wpAnyL_one {i : Nat} {o : Oper} {fuel : Nat} {listed : Array Bool} {a : Act} {w : World} (ho : ops[i]? = some o) (hr : Region.ready md ops listed = [i])
    (h : ∀ K' : Act → World → Prop, Shut (∀ a w, S w → (S w → wpAnyL P md ops Q S L fuel (listed.setIfInBounds i true) a w) → K' a w) → if Region.wanted o (yielded ops a.tmps) = true then Oper.wp P o a w K' Q else K' (a.put o.dst undef) w) : wpAnyL P md ops Q S L (fuel + 1) listed a w := by
  refine ⟨fun h0 => (by rw [hr] at h0; cases h0), fun j hj => ?_⟩
  rw [hr] at hj
  obtain rfl : j = i := by simpa using hj
  exact wpOp_step ho (fun K' hK => h K' (fun a w hS hW => hK a w ⟨fun _ => hS, hW hS⟩))
/-- the last store: nothing is asked behind it -/
theorem wpAnyL_last {o : Oper} {fuel : Nat} {listed : Array Bool} {a : Act} {w : World} (ho : ops[L]? = some o) (hr : Region.ready md ops listed = [L])
    (h : ∀ K' : Act → World → Prop, Shut (∀ a w, wpAnyL P md ops Q S L fuel (listed.setIfInBounds L true) a w → K' a w) → if Region.wanted o (yielded ops a.tmps) = true then Oper.wp P o a w K' Q else K' (a.put o.dst undef) w) : wpAnyL P md ops Q S L (fuel + 1) listed a w := by
  refine ⟨fun h0 => (by rw [hr] at h0; cases h0), fun j hj => ?_⟩
  rw [hr] at hj
  obtain rfl : j = L := by simpa using hj
  exact wpOp_step ho (fun K' hK => h K' (fun a w hW => hK a w ⟨fun hn => absurd rfl hn, hW⟩))
theorem wpAnyL_done {listed : Array Bool} {a : Act} {w : World} (hr : Region.ready md ops listed = []) (h : Q .normal a w) : ∀ fuel, wpAnyL P md ops Q S L fuel listed a w
  | 0 => ⟨hr, h⟩
  | _ + 1 => ⟨fun _ => h, by rw [hr]; simp⟩
theorem wp_region_L {id : Nat} {a : Act} {w : World} (L : Nat) (S : World → Prop) (hm : P.follows .mixedOrders = true) (hS : S w.drew)
    (h : S w.drew → wpAnyL P .any ops Q S L ops.size (Array.replicate ops.size false) a w.drew) : (Code.region id ops true).wp P Q a w :=
  wp_region_any hm (wpAny_of_L _ _ _ _ (h hS))
end
end Go.Proofs.YtbmfndjglndnlaaGreat

namespace Go.Proofs.YtbmfndjglndnlaaGreat
open Go.RowKit F256
set_option linter.unusedVariables false
set_option linter.unusedSimpArgs false
theorem drive_of' {w : World} {lo hi : Nat} {d : DriveD} {ao : Option Addr} {cap : Nat} (h : OwnT (layBlock.slice 46) w lo hi d.blocks [.slice ao d.blocks.1 cap]) : OwnT layDrive w lo hi d [.bool d.wiped, .slice ao d.blocks.1 cap] :=
  OwnT.conv (OwnT.pre (A := layB) (a := d.wiped) (c := [.bool d.wiped]) ⟨rfl, trivial, rfl⟩ h)
theorem tape_of' {w : World} {lo hi : Nat} {d : TapeD} {ao : Option Addr} {cap : Nat} (h : OwnT (layRec.slice 119) w lo hi d.recs [.slice ao d.recs.1 cap]) : OwnT layTape w lo hi d [.bool d.wiped, .slice ao d.recs.1 cap] :=
  OwnT.conv (OwnT.pre (A := layB) (a := d.wiped) (c := [.bool d.wiped]) ⟨rfl, trivial, rfl⟩ h)
theorem Three.chgl3 {w wc w' : World} {c1 c2 c3 : Array Value} {t1 t2 t3 : TypeId} (h : Three w wc c1 c2 c3 t1 t2 t3) (c3' : Array Value) (hb : Box w' (w.heap.size + 1 + 1) c3' t3) (hc : ChgL [w.heap.size + 1 + 1] wc w') : Three w w' c1 c2 c3' t1 t2 t3 :=
  ⟨h.b1.chgl hc (by simp only [List.mem_singleton]; omega), h.b2.chgl hc (by simp only [List.mem_singleton]; omega), hb, h.bel.trans (hc.bel (fun b hb => by simp only [List.mem_singleton] at hb; omega) h.bel.size)⟩
theorem OwnT.chgl {α : Type} {A : Lay α} {w w' : World} {lo hi : Nat} {a : α} {cs : List Value} {K : List Nat} (h : OwnT A w lo hi a cs) (hc : ChgL K w w') (hK : ∀ b, b ∈ K → b < lo) : OwnT A w' lo hi a cs := by
  obtain ⟨M, h1, h2, h3⟩ := h
  exact ⟨M, A.own_kept h1 (fun b hb => hc.block b (A.own_lt h1 b hb) (fun hh => by have := hK b hh; have := (h3 b hb).1; omega)), h2, h3⟩
set_option maxHeartbeats 200000000 in
set_option maxRecDepth 20000 in
theorem l5Copy_is : ToV layWorld szWorldD 37 := fun cs d hi w r hhi hn => by
  obtain ⟨ao1, cap1, ao2, cap2, ao3, cap3, rfl, g1, g2, g3, k0, k4, k5⟩ := World_rd r
  clear r
  unfold szWorldD lenD at hn
  have hnG : szSl (szSl szDriveD) d.groups ≤ 1048576 := by omega
  have hnO : d.on.1 ≤ 1048576 := by omega
  have hnT : szSl szTapeD d.tapes ≤ 1048576 := by omega
  clear hn
  have Q0 : Hid (∀ i, -9223372036854775808 ≤ d.shape i ∧ d.shape i ≤ 9223372036854775807) := k0
  have Q4 : Hid (-9223372036854775808 ≤ d.writes ∧ d.writes ≤ 9223372036854775807) := k4
  have Q5 : Hid (-9223372036854775808 ≤ d.stop ∧ d.stop ≤ 9223372036854775807) := k5
  have HG2 : Hid (layInts.rd w hi d.on [.slice ao2 d.on.1 cap2]) := g2
  obtain ⟨_, _, e1, hm1, hc1⟩ := g1
  cases e1
  obtain ⟨_, _, e3, hm3, hc3⟩ := g3
  cases e3
  have HC1 : Hid (d.groups.1 ≠ 0 → ∃ b off, ao1 = some ⟨b, off, none⟩ ∧ b < hi ∧ ∀ i, i < d.groups.1 → ∃ ce, (layDrive.slice 84).rd w hi (d.groups.2 i) ce ∧ ∀ j, j < (layDrive.slice 84).sz → w.cell? ⟨b, off + (i * (layDrive.slice 84).sz + j), none⟩ = ce[j]?) := hc1
  have HC3 : Hid (d.tapes.1 ≠ 0 → ∃ b off, ao3 = some ⟨b, off, none⟩ ∧ b < hi ∧ ∀ i, i < d.tapes.1 → ∃ ce, layTape.rd w hi (d.tapes.2 i) ce ∧ ∀ j, j < layTape.sz → w.cell? ⟨b, off + (i * layTape.sz + j), none⟩ = ce[j]?) := hc3
  have hgn := szSl_n hnG
  have htn := szSl_n hnT
  have HNG : Hid (∀ i, i < d.groups.1 → szSl szDriveD (d.groups.2 i) ≤ 1048576) := fun i hi => szSl_at hnG hi
  have HNT : Hid (∀ i, i < d.tapes.1 → szTapeD (d.tapes.2 i) ≤ 1048576) := fun i hi => szSl_at hnT hi
  clear k0 k4 k5 g2 hc1 hc3 hnG hnT hm1 hm3
  have T0 := three_newb w #[.int .i64 (d.shape 0), .int .i64 (d.shape 1), .int .i64 (d.shape 2), .int .i64 (d.shape 3), .int .i64 (d.shape 4), .int .i64 (d.shape 5), .int .i64 (d.shape 6), .int .i64 (d.shape 7), .int .i64 (d.shape 8), .slice ao1 d.groups.1 cap1, .slice ao2 d.on.1 cap2, .slice ao3 d.tapes.1 cap3, .int .i64 d.writes, .int .i64 d.stop, .bool d.down] #[.int .i64 0, .int .i64 0, .int .i64 0, .int .i64 0, .int .i64 0, .int .i64 0, .int .i64 0, .int .i64 0, .int .i64 0, .slice none 0 0, .slice none 0 0, .slice none 0 0, .int .i64 0, .int .i64 0, .bool false] #[.int .i64 (d.shape 0), .int .i64 (d.shape 1), .int .i64 (d.shape 2), .int .i64 (d.shape 3), .int .i64 (d.shape 4), .int .i64 (d.shape 5), .int .i64 (d.shape 6), .int .i64 (d.shape 7), .int .i64 (d.shape 8), .slice none 0 0, .slice ao2 d.on.1 cap2, .slice ao3 d.tapes.1 cap3, .int .i64 d.writes, .int .i64 d.stop, .bool d.down] 34 34 34
  go_enter Tryz.func37, Tryz.ntmps37
  go_wp2
  go_loopw [4] (fun i wr => ∃ (g : Nat) (ga : Option Addr) (gc : Nat), g ≤ d.groups.1 ∧ i = .int .i64 g ∧ Three w wr #[.int .i64 (d.shape 0), .int .i64 (d.shape 1), .int .i64 (d.shape 2), .int .i64 (d.shape 3), .int .i64 (d.shape 4), .int .i64 (d.shape 5), .int .i64 (d.shape 6), .int .i64 (d.shape 7), .int .i64 (d.shape 8), .slice ao1 d.groups.1 cap1, .slice ao2 d.on.1 cap2, .slice ao3 d.tapes.1 cap3, .int .i64 d.writes, .int .i64 d.stop, .bool d.down] #[.int .i64 0, .int .i64 0, .int .i64 0, .int .i64 0, .int .i64 0, .int .i64 0, .int .i64 0, .int .i64 0, .int .i64 0, .slice none 0 0, .slice none 0 0, .slice none 0 0, .int .i64 0, .int .i64 0, .bool false] #[.int .i64 (d.shape 0), .int .i64 (d.shape 1), .int .i64 (d.shape 2), .int .i64 (d.shape 3), .int .i64 (d.shape 4), .int .i64 (d.shape 5), .int .i64 (d.shape 6), .int .i64 (d.shape 7), .int .i64 (d.shape 8), .slice ga g gc, .slice ao2 d.on.1 cap2, .slice ao3 d.tapes.1 cap3, .int .i64 d.writes, .int .i64 d.stop, .bool d.down] 34 34 34 ∧ Gat (layDrive.slice 84) 85 wr (w.heap.size + 1 + 1 + 1) (.slice ga g gc) g d.groups.2) (fun i _ => d.groups.1 - (intOf i).toNat)
  case atStart => exact ⟨0, none, 0, Nat.zero_le _, rfl, T0, Gat.nil _ _ _⟩
  case round =>
    clear T0
    obtain ⟨g, ga, gc, hg, rfl, T1, G1⟩ := hrel
    obtain ⟨wo, rfl⟩ : ∃ x, x = wr := ⟨_, rfl⟩
    have HT1 : Hid (Three w wo #[.int .i64 (d.shape 0), .int .i64 (d.shape 1), .int .i64 (d.shape 2), .int .i64 (d.shape 3), .int .i64 (d.shape 4), .int .i64 (d.shape 5), .int .i64 (d.shape 6), .int .i64 (d.shape 7), .int .i64 (d.shape 8), .slice ao1 d.groups.1 cap1, .slice ao2 d.on.1 cap2, .slice ao3 d.tapes.1 cap3, .int .i64 d.writes, .int .i64 d.stop, .bool d.down] #[.int .i64 0, .int .i64 0, .int .i64 0, .int .i64 0, .int .i64 0, .int .i64 0, .int .i64 0, .int .i64 0, .int .i64 0, .slice none 0 0, .slice none 0 0, .slice none 0 0, .int .i64 0, .int .i64 0, .bool false] #[.int .i64 (d.shape 0), .int .i64 (d.shape 1), .int .i64 (d.shape 2), .int .i64 (d.shape 3), .int .i64 (d.shape 4), .int .i64 (d.shape 5), .int .i64 (d.shape 6), .int .i64 (d.shape 7), .int .i64 (d.shape 8), .slice ga g gc, .slice ao2 d.on.1 cap2, .slice ao3 d.tapes.1 cap3, .int .i64 d.writes, .int .i64 d.stop, .bool d.down] 34 34 34) := T1
    have HG1 : Hid (Gat (layDrive.slice 84) 85 wo (w.heap.size + 1 + 1 + 1) (.slice ga g gc) g d.groups.2) := G1
    have zo : w.heap.size + 1 + 1 + 1 ≤ wo.heap.size := T1.lt
    have x9 : wo.cell? ⟨w.heap.size, 9, none⟩ = some (.slice ao1 d.groups.1 cap1) := T1.b1.cell 9
    by_cases hlg : g < d.groups.1
    · obtain ⟨b1, off1, he1, hb1, hel1⟩ := HC1.out (by omega)
      subst he1
      obtain ⟨cg, hrg, hcg⟩ := elem_rd (t := 0) hel1 T1.bel hhi hb1 hlg
      obtain ⟨ao9, cap9, rfl⟩ := sl_form hrg
      have c0 : wo.cell? ⟨b1, off1 + g, none⟩ = some (.slice ao9 (d.groups.2 g).1 cap9) := by
        have := hcg 0 (by decide)
        have e : off1 + (g * (layDrive.slice 84).sz + 0) = off1 + g := by show off1 + (g * 1 + 0) = off1 + g; omega
        rw [e] at this
        exact this
      have HC0 : Hid (wo.cell? ⟨b1, off1 + g, none⟩ = some (.slice ao9 (d.groups.2 g).1 cap9)) := c0
      have hnD := HNG.out g hlg
      have hdn := szSl_n hnD
      have HND : Hid (∀ i, i < (d.groups.2 g).1 → szDriveD ((d.groups.2 g).2 i) ≤ 1048576) := fun i hi => szSl_at hnD hi
      obtain ⟨_, _, e9, hm9, hc9⟩ := hrg
      cases e9
      have HC9 : Hid ((d.groups.2 g).1 ≠ 0 → ∃ b off, ao9 = some ⟨b, off, none⟩ ∧ b < hi ∧ ∀ i, i < (d.groups.2 g).1 → ∃ ce, layDrive.rd wo hi ((d.groups.2 g).2 i) ce ∧ ∀ j, j < layDrive.sz → wo.cell? ⟨b, off + (i * layDrive.sz + j), none⟩ = ce[j]?) := hc9
      clear hel1 hcg T1 G1 hc9 hnD hm9
      go_wp2
      go_loopw [5, 6] (fun v i wx => ∃ (k : Nat) (da : Option Addr) (dc : Nat), k ≤ (d.groups.2 g).1 ∧ i = .int .i64 k ∧ v = .slice da k dc ∧ Gat layDrive 84 wx wo.heap.size (.slice da k dc) k (d.groups.2 g).2 ∧ Below wo.heap.size wo wx) (fun _ i _ => (d.groups.2 g).1 - (intOf i).toNat)
      case atStart => exact ⟨0, _, _, Nat.zero_le _, rfl, rfl, gat_lit0 _ _, (Below.refl _ _).alloc (Nat.le_refl _) _⟩
      case round =>
        clear x9 c0
        obtain ⟨k, da, dc, hk, rfl, rfl, G2, B2⟩ := hrel
        obtain ⟨wx, rfl⟩ : ∃ x, x = wr := ⟨_, rfl⟩
        have HG2' : Hid (Gat layDrive 84 wx wo.heap.size (.slice da k dc) k (d.groups.2 g).2) := G2
        have HB2 : Hid (Below wo.heap.size wo wx) := B2
        have zx : wo.heap.size ≤ wx.heap.size := B2.size
        have x9 : wx.cell? ⟨w.heap.size, 9, none⟩ = some (.slice (some ⟨b1, off1, none⟩) d.groups.1 cap1) := (HT1.out.call B2).b1.cell 9
        have c0 : wx.cell? ⟨b1, off1 + g, none⟩ = some (.slice ao9 (d.groups.2 g).1 cap9) := (B2.cell (p := ⟨b1, off1 + g, none⟩) (by show b1 < wo.heap.size; omega)).trans HC0.out
        by_cases hlk : k < (d.groups.2 g).1
        · obtain ⟨b9, off9, he9, hb9, hel9⟩ := HC9.out (by omega)
          subst he9
          obtain ⟨cd, hrd, hcd⟩ := elem_rd (t := 0) hel9 B2 (by omega) hb9 hlk
          obtain ⟨ao5, cap5, rfl, g5⟩ := Drive_rd hrd
          obtain ⟨D, hD⟩ : ∃ x, x = (d.groups.2 g).2 k := ⟨_, rfl⟩
          rw [← hD] at hcd g5
          have HD : Hid (D = (d.groups.2 g).2 k) := hD
          have hnB : szSl szBlockD D.blocks ≤ 1048576 := by rw [hD]; exact HND.out k hlk
          have hbn := szSl_n hnB
          have HNB : Hid (∀ i, i < D.blocks.1 → szBlockD (D.blocks.2 i) ≤ 1048576) := fun i hi => szSl_at hnB hi
          have c2 : wx.cell? ⟨b9, off9 + k * 2, none⟩ = some (.bool D.wiped) := hcd 0 (by decide)
          have c3 : wx.cell? ⟨b9, off9 + k * 2 + 1, none⟩ = some (.slice ao5 D.blocks.1 cap5) := hcd 1 (by decide)
          have HC3' : Hid (wx.cell? ⟨b9, off9 + k * 2 + 1, none⟩ = some (.slice ao5 D.blocks.1 cap5)) := c3
          have HC0' : Hid (wx.cell? ⟨b1, off1 + g, none⟩ = some (.slice (some ⟨b9, off9, none⟩) (d.groups.2 g).1 cap9)) := c0
          obtain ⟨_, _, e5, hm5, hc5⟩ := g5
          cases e5
          have HC5 : Hid (D.blocks.1 ≠ 0 → ∃ b off, ao5 = some ⟨b, off, none⟩ ∧ b < hi ∧ ∀ i, i < D.blocks.1 → ∃ ce, layBlock.rd wx hi (D.blocks.2 i) ce ∧ ∀ j, j < layBlock.sz → wx.cell? ⟨b, off + (i * layBlock.sz + j), none⟩ = ce[j]?) := hc5
          clear hel9 hcd hrd G2 B2 hD hnB hc5 hm5
          go_wp2
          have bA : Below wx.heap.size wx (wx.alloc (.cells #[.bool D.wiped, .slice none 0 0] 84)) := (Below.refl _ _).alloc (Nat.le_refl _) _
          have XA : Box (wx.alloc (.cells #[.bool D.wiped, .slice none 0 0] 84)) wx.heap.size #[.bool D.wiped, .slice none 0 0] 84 := box_new _ _ _
          go_loopw [8] (fun i wz => ∃ (q : Nat) (ba : Option Addr) (bc : Nat), q ≤ D.blocks.1 ∧ i = .int .i64 q ∧ Box wz wx.heap.size #[.bool D.wiped, .slice ba q bc] 84 ∧ Gat layBlock 46 wz (wx.heap.size + 1) (.slice ba q bc) q D.blocks.2 ∧ Below wx.heap.size wx wz) (fun i _ => D.blocks.1 - (intOf i).toNat)
          case atStart => exact ⟨0, none, 0, Nat.zero_le _, rfl, XA, Gat.nil _ _ _, bA⟩
          case round =>
            clear x9 c0 c2 c3 bA XA
            obtain ⟨q, ba, bc, hq, rfl, X3, G3, B3⟩ := hrel
            obtain ⟨wz, rfl⟩ : ∃ x, x = wr := ⟨_, rfl⟩
            have HX3 : Hid (Box wz wx.heap.size #[.bool D.wiped, .slice ba q bc] 84) := X3
            have HG3 : Hid (Gat layBlock 46 wz (wx.heap.size + 1) (.slice ba q bc) q D.blocks.2) := G3
            have HB3 : Hid (Below wx.heap.size wx wz) := B3
            have zz : wx.heap.size < wz.heap.size := X3.lt
            have x9 : wz.cell? ⟨w.heap.size, 9, none⟩ = some (.slice (some ⟨b1, off1, none⟩) d.groups.1 cap1) := ((HT1.out.call HB2.out).call B3).b1.cell 9
            have c0 : wz.cell? ⟨b1, off1 + g, none⟩ = some (.slice (some ⟨b9, off9, none⟩) (d.groups.2 g).1 cap9) := (B3.cell (p := ⟨b1, off1 + g, none⟩) (by show b1 < wx.heap.size; omega)).trans HC0'.out
            have c3 : wz.cell? ⟨b9, off9 + k * 2 + 1, none⟩ = some (.slice ao5 D.blocks.1 cap5) := (B3.cell (p := ⟨b9, off9 + k * 2 + 1, none⟩) (by show b9 < wx.heap.size; omega)).trans HC3'.out
            have y0 : wz.cell? ⟨wx.heap.size, 0, none⟩ = some (.bool D.wiped) := X3.cell 0
            have y1 : wz.cell? ⟨wx.heap.size, 1, none⟩ = some (.slice ba q bc) := X3.cell 1
            by_cases hlq : q < D.blocks.1
            · obtain ⟨b5, off5, he5, hb5, hel5⟩ := HC5.out (by omega)
              subst he5
              obtain ⟨cb, hrb, hcb⟩ := elem_rd (t := 0) hel5 B3 (by omega) hb5 hlq
              obtain ⟨ao0, cap0, rfl, -⟩ := Block_rd hrb
              have s0 : wz.cell? ⟨b5, off5 + q * 2, none⟩ = some (.int .i64 (D.blocks.2 q).stamp) := hcb 0 (by decide)
              have s1 : wz.cell? ⟨b5, off5 + q * 2 + 1, none⟩ = some (.slice ao0 (D.blocks.2 q).bytes.1 cap0) := hcb 1 (by decide)
              have CC := l5CopyBlock_is _ (D.blocks.2 q) hi wz.drew (layBlock.rd_below (B := hi) hrb ⟨rfl, rfl, rfl, Nat.le_refl _, fun _ _ => rfl⟩ (Nat.le_refl _)) (show hi ≤ wz.heap.size by omega) (HNB.out q hlq)
              have CC := CC.mono (R' := fun e w' => ∃ bo bcc, e = .returned (.agg #[.int .i64 (D.blocks.2 q).stamp, .slice bo (D.blocks.2 q).bytes.1 bcc]) ∧ OwnT layBlock w' wz.drew.heap.size w'.heap.size (D.blocks.2 q) [.int .i64 (D.blocks.2 q).stamp, .slice bo (D.blocks.2 q).bytes.1 bcc] ∧ Below wz.drew.heap.size wz.drew w') (fun e w' ⟨c5, he, o5, b5'⟩ => by
                obtain ⟨bo, bcc, rfl⟩ := Block_cells o5
                exact ⟨bo, bcc, he, o5, b5'⟩)
              clear hel5 hcb hrb X3 G3 B3
              have KS : ∀ w', Below (wx.heap.size + 1) wz w' → (w'.cell? ⟨w.heap.size, 9, none⟩ = some (.slice (some ⟨b1, off1, none⟩) d.groups.1 cap1) ∧ w'.cell? ⟨b1, off1 + g, none⟩ = some (.slice (some ⟨b9, off9, none⟩) (d.groups.2 g).1 cap9) ∧ w'.cell? ⟨b9, off9 + k * 2 + 1, none⟩ = some (.slice (some ⟨b5, off5, none⟩) D.blocks.1 cap5) ∧ w'.cell? ⟨b5, off5 + q * 2, none⟩ = some (.int .i64 (D.blocks.2 q).stamp) ∧ w'.cell? ⟨b5, off5 + q * 2 + 1, none⟩ = some (.slice ao0 (D.blocks.2 q).bytes.1 cap0) ∧ w'.cell? ⟨wx.heap.size, 1, none⟩ = some (.slice ba q bc)) := fun w' hb => ⟨(hb.cell (p := ⟨w.heap.size, 9, none⟩) (by show w.heap.size < wx.heap.size + 1; omega)).trans x9, (hb.cell (p := ⟨b1, off1 + g, none⟩) (by show b1 < wx.heap.size + 1; omega)).trans c0, (hb.cell (p := ⟨b9, off9 + k * 2 + 1, none⟩) (by show b9 < wx.heap.size + 1; omega)).trans c3, (hb.cell (p := ⟨b5, off5 + q * 2, none⟩) (by show b5 < wx.heap.size + 1; omega)).trans s0, (hb.cell (p := ⟨b5, off5 + q * 2 + 1, none⟩) (by show b5 < wx.heap.size + 1; omega)).trans s1, (hb.cell (p := ⟨wx.heap.size, 1, none⟩) (Nat.lt_succ_self _)).trans y1⟩
              have i1 : (0 : Int) ≤ (g : Int) := by omega
              have i2 : (g : Int) < (d.groups.1 : Int) := by omega
              have i3 : (0 : Int) ≤ (k : Int) := by omega
              have i4 : (k : Int) < ((d.groups.2 g).1 : Int) := by omega
              have i5 : (0 : Int) ≤ (q : Int) := by omega
              have i6 : (q : Int) < (D.blocks.1 : Int) := by omega
              go_upto_region 14 with fail
              refine wp_region_L 18 (fun w' => w'.cell? ⟨w.heap.size, 9, none⟩ = some (.slice (some ⟨b1, off1, none⟩) d.groups.1 cap1) ∧ w'.cell? ⟨b1, off1 + g, none⟩ = some (.slice (some ⟨b9, off9, none⟩) (d.groups.2 g).1 cap9) ∧ w'.cell? ⟨b9, off9 + k * 2 + 1, none⟩ = some (.slice (some ⟨b5, off5, none⟩) D.blocks.1 cap5) ∧ w'.cell? ⟨b5, off5 + q * 2, none⟩ = some (.int .i64 (D.blocks.2 q).stamp) ∧ w'.cell? ⟨b5, off5 + q * 2 + 1, none⟩ = some (.slice ao0 (D.blocks.2 q).bytes.1 cap0) ∧ w'.cell? ⟨wx.heap.size, 1, none⟩ = some (.slice ba q bc)) (by kernel_rfl) (KS _ ⟨rfl, rfl, rfl, Nat.le_refl _, fun _ _ => rfl⟩) (fun hHeld => ?_)
              refine wpAnyL_take (i := 0) (oi := _) (v := ?_) 16 rfl (by kernel_rfl) (fun _ _ _ h => h) (Or.inl ⟨by rfl, ?_⟩) (by assumption) ?_
              rotate_left
              · intro w' hSw
                try dsimp only at hSw
                obtain ⟨hq0, hq1, hq2, hq3, hq4, hq5⟩ := hSw
                go_simp
                try with_reducible rfl
              try simp only [Act.put, List.setIfInBounds_toArray, List.set_cons_zero, List.set_cons_succ]
              refine wpAnyL_take (i := 1) (oi := _) (v := ?_) 16 rfl (by kernel_rfl) (fun _ _ _ h => h) (Or.inl ⟨by rfl, ?_⟩) (by assumption) ?_
              rotate_left
              · intro w' hSw
                try dsimp only at hSw
                obtain ⟨hq0, hq1, hq2, hq3, hq4, hq5⟩ := hSw
                go_simp
                try with_reducible rfl
              try simp only [Act.put, List.setIfInBounds_toArray, List.set_cons_zero, List.set_cons_succ]
              refine wpAnyL_take (i := 2) (oi := _) (v := ?_) 16 rfl (by kernel_rfl) (fun _ _ _ h => h) (Or.inl ⟨by rfl, ?_⟩) (by assumption) ?_
              rotate_left
              · intro w' hSw
                try dsimp only at hSw
                obtain ⟨hq0, hq1, hq2, hq3, hq4, hq5⟩ := hSw
                go_simp
                try with_reducible rfl
              try simp only [Act.put, List.setIfInBounds_toArray, List.set_cons_zero, List.set_cons_succ]
              refine wpAnyL_take (i := 3) (oi := _) (v := ?_) 16 rfl (by kernel_rfl) (fun _ _ _ h => h) (Or.inl ⟨by rfl, ?_⟩) (by assumption) ?_
              rotate_left
              · intro w' hSw
                try dsimp only at hSw
                obtain ⟨hq0, hq1, hq2, hq3, hq4, hq5⟩ := hSw
                go_simp
                try with_reducible rfl
              try simp only [Act.put, List.setIfInBounds_toArray, List.set_cons_zero, List.set_cons_succ]
              refine wpAnyL_take (i := 4) (oi := _) (v := ?_) 16 rfl (by kernel_rfl) (fun _ _ _ h => h) (Or.inl ⟨by rfl, ?_⟩) (by assumption) ?_
              rotate_left
              · intro w' hSw
                try dsimp only at hSw
                obtain ⟨hq0, hq1, hq2, hq3, hq4, hq5⟩ := hSw
                go_simp
                try with_reducible rfl
              try simp only [Act.put, List.setIfInBounds_toArray, List.set_cons_zero, List.set_cons_succ]
              refine wpAnyL_take (i := 5) (oi := _) (v := ?_) 16 rfl (by kernel_rfl) (fun _ _ _ h => h) (Or.inl ⟨by rfl, ?_⟩) (by assumption) ?_
              rotate_left
              · intro w' hSw
                try dsimp only at hSw
                obtain ⟨hq0, hq1, hq2, hq3, hq4, hq5⟩ := hSw
                go_simp
                try with_reducible rfl
              try simp only [Act.put, List.setIfInBounds_toArray, List.set_cons_zero, List.set_cons_succ]
              refine wpAnyL_take (i := 6) (oi := _) (v := ?_) 16 rfl (by kernel_rfl) (fun _ _ _ h => h) (Or.inl ⟨by rfl, ?_⟩) (by assumption) ?_
              rotate_left
              · intro w' hSw
                try dsimp only at hSw
                obtain ⟨hq0, hq1, hq2, hq3, hq4, hq5⟩ := hSw
                go_simp
                try with_reducible rfl
              try simp only [Act.put, List.setIfInBounds_toArray, List.set_cons_zero, List.set_cons_succ]
              refine wpAnyL_take (i := 7) (oi := _) (v := ?_) 16 rfl (by kernel_rfl) (fun _ _ _ h => h) (Or.inl ⟨by rfl, ?_⟩) (by assumption) ?_
              rotate_left
              · intro w' hSw
                try dsimp only at hSw
                obtain ⟨hq0, hq1, hq2, hq3, hq4, hq5⟩ := hSw
                go_simp
                try with_reducible rfl
              try simp only [Act.put, List.setIfInBounds_toArray, List.set_cons_zero, List.set_cons_succ]
              refine wpAnyL_take (i := 8) (oi := _) (v := ?_) 16 rfl (by kernel_rfl) (fun _ _ _ h => h) (Or.inl ⟨by rfl, ?_⟩) (by assumption) ?_
              rotate_left
              · intro w' hSw
                try dsimp only at hSw
                obtain ⟨hq0, hq1, hq2, hq3, hq4, hq5⟩ := hSw
                go_simp
                try with_reducible rfl
              try simp only [Act.put, List.setIfInBounds_toArray, List.set_cons_zero, List.set_cons_succ]
              refine wpAnyL_take (i := 9) (oi := _) (v := ?_) 16 rfl (by kernel_rfl) (fun _ _ _ h => h) (Or.inl ⟨by rfl, ?_⟩) (by assumption) ?_
              rotate_left
              · intro w' hSw
                try dsimp only at hSw
                obtain ⟨hq0, hq1, hq2, hq3, hq4, hq5⟩ := hSw
                go_simp
                try with_reducible rfl
              try simp only [Act.put, List.setIfInBounds_toArray, List.set_cons_zero, List.set_cons_succ]
              refine wpAnyL_take (i := 10) (oi := _) (v := ?_) 16 rfl (by kernel_rfl) (fun _ _ _ h => h) (Or.inl ⟨by rfl, ?_⟩) (by assumption) ?_
              rotate_left
              · intro w' hSw
                try dsimp only at hSw
                obtain ⟨hq0, hq1, hq2, hq3, hq4, hq5⟩ := hSw
                go_simp
                try with_reducible rfl
              try simp only [Act.put, List.setIfInBounds_toArray, List.set_cons_zero, List.set_cons_succ]
              refine wpAnyL_take (i := 11) (oi := _) (v := ?_) 16 rfl (by kernel_rfl) (fun _ _ _ h => h) (Or.inl ⟨by rfl, ?_⟩) (by assumption) ?_
              rotate_left
              · intro w' hSw
                try dsimp only at hSw
                obtain ⟨hq0, hq1, hq2, hq3, hq4, hq5⟩ := hSw
                go_simp
                try with_reducible rfl
              try simp only [Act.put, List.setIfInBounds_toArray, List.set_cons_zero, List.set_cons_succ]
              refine wpAnyL_take (i := 12) (oi := _) (v := ?_) 16 rfl (by kernel_rfl) (fun _ _ _ h => h) (Or.inl ⟨by rfl, ?_⟩) (by assumption) ?_
              rotate_left
              · intro w' hSw
                try dsimp only at hSw
                obtain ⟨hq0, hq1, hq2, hq3, hq4, hq5⟩ := hSw
                go_simp
                try with_reducible rfl
              try simp only [Act.put, List.setIfInBounds_toArray, List.set_cons_zero, List.set_cons_succ]
              refine wpAnyL_take (i := 13) (oi := _) (v := ?_) 16 rfl (by kernel_rfl) (fun _ _ _ h => h) (Or.inl ⟨by rfl, ?_⟩) (by assumption) ?_
              rotate_left
              · intro w' hSw
                try dsimp only at hSw
                obtain ⟨hq0, hq1, hq2, hq3, hq4, hq5⟩ := hSw
                go_simp
                try with_reducible rfl
              try simp only [Act.put, List.setIfInBounds_toArray, List.set_cons_zero, List.set_cons_succ]
              refine wpAnyL_one (i := 14) (o := _) rfl (by kernel_rfl) (fun K hK => ?_)
              refine step_call rfl 59 _ _ rfl #[.agg #[.int .i64 (D.blocks.2 q).stamp, .slice ao0 (D.blocks.2 q).bytes.1 cap0]] ?_ Tryz.func59 (by kernel_rfl) (by kernel_rfl) CC ?_; (simp [Act.eval, Act.put]); rintro ee w5 ⟨bo, bcc, rfl, o5, b5'⟩; have b5w : Below wz.heap.size wz w5 := ⟨b5'.os, b5'.tape, b5'.output, b5'.size, b5'.block⟩; have q1 : w5.cell? ⟨wx.heap.size, 1, none⟩ = some (.slice ba q bc) := (HX3.out.call b5w).cell 1; have q3 := (cell_alloc_old w5 (.cells #[.int .i64 (D.blocks.2 q).stamp, .slice bo (D.blocks.2 q).bytes.1 bcc] 46) wx.heap.size 1 (by have := b5w.size; omega)).trans q1; refine ⟨_, rfl, ?_⟩
              refine hK.out _ _ (KS _ (b5w.mono (Nat.succ_le_of_lt zz))) (fun hHeld => ?_)
              clear hK K
              try simp only [Act.put, List.setIfInBounds_toArray, List.set_cons_zero, List.set_cons_succ]
              refine wpAnyL_one (i := 15) (o := _) rfl (by kernel_rfl) (fun K hK => ?_)
              go_simp
              refine hK.out _ _ (KS _ ((b5w.mono (Nat.succ_le_of_lt zz)).alloc (by have := b5w.size; omega) _)) (fun hHeld => ?_)
              clear hK K
              try simp only [Act.put, List.setIfInBounds_toArray, List.set_cons_zero, List.set_cons_succ]
              refine wpAnyL_one (i := 16) (o := _) rfl (by kernel_rfl) (fun K hK => ?_)
              refine step_appendN el_Block rfl (.tmp 55) (.tmp 69) rfl (lo := wx.heap.size + 1) (n := q) (v := .slice ba q bc) (x := D.blocks.2) ?_ HG3.out b5w o5 ?_ w5.heap.size 1 ?_ (fun j _ => cells_new w5 _ _ j) (by omega) (by omega) ?_; (simp [Act.eval, Act.put]); (exact (Below.refl _ _).alloc (Nat.le_refl _) _); (simp [Act.eval, Act.put]); intro v4 w4 g4 b4; obtain ⟨ba4, bc4, rfl⟩ := g4.form; have X4 := HX3.out.below b4 (Nat.lt_succ_self _); have p1 : w4.cell? ⟨wx.heap.size, 1, none⟩ = some (.slice ba q bc) := X4.cell 1; have p2 : w4.frozen? ⟨wx.heap.size, 1, none⟩ = false := X4.frozen 1
              refine hK.out _ _ (KS _ b4) (fun hHeld => ?_)
              clear hK K
              try simp only [Act.put, List.setIfInBounds_toArray, List.set_cons_zero, List.set_cons_succ]
              refine wpAnyL_one (i := 17) (o := _) rfl (by kernel_rfl) (fun K hK => ?_)
              go_simp
              refine hK.out _ _ (KS _ b4) (fun hHeld => ?_)
              clear hK K
              try simp only [Act.put, List.setIfInBounds_toArray, List.set_cons_zero, List.set_cons_succ]
              refine wpAnyL_last (o := _) rfl (by kernel_rfl) (fun K hK => ?_)
              go_simp
              refine hK.out _ _ ?_
              clear hK K
              try simp only [Act.put, List.setIfInBounds_toArray, List.set_cons_zero, List.set_cons_succ]
              refine wpAnyL_done (by kernel_rfl) ?_ _
              go_wp2
              go_roundw
              case rel => exact ⟨q + 1, ba4, bc4, by omega, by go_num, X4.setc 1 (.slice ba4 (q + 1) bc4), (g4.set _ _ _ (Nat.lt_succ_self _)).congr (fun i _ => by rw [upd_self]), (HB3.out.trans (b4.mono (Nat.le_succ _))).setCell (Nat.le_refl _) _⟩
              case measure => simp [intOf]; omega
            · obtain rfl : q = D.blocks.1 := by omega
              have OD : OwnT layDrive wz wx.heap.size wz.heap.size D [.bool D.wiped, .slice ba D.blocks.1 bc] := drive_of' (HG3.out.own.weaken (Nat.le_succ _) (Nat.le_refl _))
              clear X3 G3 B3
              go_wp2_with (at_builtin; refine wp_appendN el_Drive rfl (.tmp 72) (.tmp 74) rfl (lo := wo.heap.size) (n := k) (v := .slice da k dc) (x := (d.groups.2 g).2) ?_ HG2'.out HB3.out OD ?_ wz.heap.size 1 ?_ (fun j _ => cells_new wz _ _ j) (by omega) (by omega) ?_; (simp [Act.eval]); (exact (Below.refl _ _).alloc (Nat.le_refl _) _); (simp [Act.eval]); intro v4 w4 g4 b4; obtain ⟨da4, dc4, rfl⟩ := g4.form)
              go_roundw
              case rel => exact ⟨k + 1, da4, dc4, by omega, by go_num, rfl, g4.congr (fun i _ => by rw [HD.out, upd_self]), HB2.out.trans b4⟩
              case measure => simp [intOf]; omega
        · obtain rfl : k = (d.groups.2 g).1 := by omega
          have OG : OwnT (layDrive.slice 84) wx wo.heap.size wx.heap.size (d.groups.2 g) [.slice da (d.groups.2 g).1 dc] := HG2'.out.own
          have T2 := HT1.out.call B2
          have e9 : wx.cell? ⟨w.heap.size + 1 + 1, 9, none⟩ = some (.slice ga g gc) := T2.b3.cell 9
          have e9' := (cell_alloc_old wx (.cells #[.slice da (d.groups.2 g).1 dc] 85) (w.heap.size + 1 + 1) 9 (by omega)).trans e9
          clear T2 G2 B2
          go_wp2_with (at_builtin; refine wp_appendN el_DriveS rfl (.tmp 77) (.tmp 79) rfl (lo := w.heap.size + 1 + 1 + 1) (n := g) (v := .slice ga g gc) (x := d.groups.2) ?_ HG1.out HB2.out OG ?_ wx.heap.size 1 ?_ (fun j _ => cells_new wx _ _ j) (by omega) (by omega) ?_; (simp [Act.eval]); (exact (Below.refl _ _).alloc (Nat.le_refl _) _); (simp [Act.eval]); intro v4 w4 g4 b4; obtain ⟨ga4, gc4, rfl⟩ := g4.form; have T4 := HT1.out.low b4; have p1 : w4.cell? ⟨w.heap.size + 1 + 1, 9, none⟩ = some (.slice ga g gc) := T4.b3.cell 9; have p2 : w4.frozen? ⟨w.heap.size + 1 + 1, 9, none⟩ = false := T4.b3.frozen 9)
          go_roundw
          case rel => exact ⟨g + 1, ga4, gc4, by omega, by go_num, T4.st3 9 [.slice ga4 (g + 1) gc4] rfl, (g4.set _ _ _ (by omega)).congr (fun i _ => by rw [upd_self])⟩
          case measure => simp [intOf]; omega
    · obtain rfl : g = d.groups.1 := by omega
      have bA : Below wo.heap.size wo (wo.alloc (.cells #[] 2)) := (Below.refl _ _).alloc (Nat.le_refl _) _
      have TA := T1.call bA
      obtain ⟨v', w2, hrun, o2, b2⟩ := run_appendRI 25 (wo.alloc (.cells #[] 2)) wo.heap.size (lit_row wo 2) (layInts.rd_below HG2.out TA.bel hhi) (show d.on.1 ≤ 10000000 by omega)
      obtain ⟨oa, oc, hv⟩ := ints_formT o2
      obtain rfl := one_eq hv
      clear hv
      have T2 : Three w w2 #[.int .i64 (d.shape 0), .int .i64 (d.shape 1), .int .i64 (d.shape 2), .int .i64 (d.shape 3), .int .i64 (d.shape 4), .int .i64 (d.shape 5), .int .i64 (d.shape 6), .int .i64 (d.shape 7), .int .i64 (d.shape 8), .slice ao1 d.groups.1 cap1, .slice ao2 d.on.1 cap2, .slice ao3 d.tapes.1 cap3, .int .i64 d.writes, .int .i64 d.stop, .bool d.down] #[.int .i64 0, .int .i64 0, .int .i64 0, .int .i64 0, .int .i64 0, .int .i64 0, .int .i64 0, .int .i64 0, .int .i64 0, .slice none 0 0, .slice none 0 0, .slice none 0 0, .int .i64 0, .int .i64 0, .bool false] #[.int .i64 (d.shape 0), .int .i64 (d.shape 1), .int .i64 (d.shape 2), .int .i64 (d.shape 3), .int .i64 (d.shape 4), .int .i64 (d.shape 5), .int .i64 (d.shape 6), .int .i64 (d.shape 7), .int .i64 (d.shape 8), .slice ga d.groups.1 gc, .slice ao2 d.on.1 cap2, .slice ao3 d.tapes.1 cap3, .int .i64 d.writes, .int .i64 d.stop, .bool d.down] 34 34 34 := TA.low (b2.mono zo)
      have G2 : Gat (layDrive.slice 84) 85 w2 (w.heap.size + 1 + 1 + 1) (.slice ga d.groups.1 gc) d.groups.1 d.groups.2 := by
        have h1 : Below wo.heap.size wo w2 := bA.trans b2
        exact G1.below h1
      have xa : (wo.alloc (.cells #[] 2)).cell? ⟨w.heap.size, 10, none⟩ = some (.slice ao2 d.on.1 cap2) := TA.b1.cell 10
      have xb : w2.cell? ⟨w.heap.size + 1 + 1, 10, none⟩ = some (.slice ao2 d.on.1 cap2) := T2.b3.cell 10
      have xf : w2.frozen? ⟨w.heap.size + 1 + 1, 10, none⟩ = false := T2.b3.frozen 10
      have T3 := T2.st3 10 [.slice oa d.on.1 oc] (c3' := [.int .i64 (d.shape 0), .int .i64 (d.shape 1), .int .i64 (d.shape 2), .int .i64 (d.shape 3), .int .i64 (d.shape 4), .int .i64 (d.shape 5), .int .i64 (d.shape 6), .int .i64 (d.shape 7), .int .i64 (d.shape 8), .slice ga d.groups.1 gc, .slice oa d.on.1 oc, .slice ao3 d.tapes.1 cap3, .int .i64 d.writes, .int .i64 d.stop, .bool d.down]) rfl
      have T4 : Three w (stN (stN w2 (w.heap.size + 1 + 1) 10 [.slice oa d.on.1 oc]) (w.heap.size + 1 + 1) 11 [.slice none 0 0]) #[.int .i64 (d.shape 0), .int .i64 (d.shape 1), .int .i64 (d.shape 2), .int .i64 (d.shape 3), .int .i64 (d.shape 4), .int .i64 (d.shape 5), .int .i64 (d.shape 6), .int .i64 (d.shape 7), .int .i64 (d.shape 8), .slice ao1 d.groups.1 cap1, .slice ao2 d.on.1 cap2, .slice ao3 d.tapes.1 cap3, .int .i64 d.writes, .int .i64 d.stop, .bool d.down] #[.int .i64 0, .int .i64 0, .int .i64 0, .int .i64 0, .int .i64 0, .int .i64 0, .int .i64 0, .int .i64 0, .int .i64 0, .slice none 0 0, .slice none 0 0, .slice none 0 0, .int .i64 0, .int .i64 0, .bool false] #[.int .i64 (d.shape 0), .int .i64 (d.shape 1), .int .i64 (d.shape 2), .int .i64 (d.shape 3), .int .i64 (d.shape 4), .int .i64 (d.shape 5), .int .i64 (d.shape 6), .int .i64 (d.shape 7), .int .i64 (d.shape 8), .slice ga d.groups.1 gc, .slice oa d.on.1 oc, .slice none 0 0, .int .i64 d.writes, .int .i64 d.stop, .bool d.down] 34 34 34 := T3.st3 11 [.slice none 0 0] (c3' := [.int .i64 (d.shape 0), .int .i64 (d.shape 1), .int .i64 (d.shape 2), .int .i64 (d.shape 3), .int .i64 (d.shape 4), .int .i64 (d.shape 5), .int .i64 (d.shape 6), .int .i64 (d.shape 7), .int .i64 (d.shape 8), .slice ga d.groups.1 gc, .slice oa d.on.1 oc, .slice none 0 0, .int .i64 d.writes, .int .i64 d.stop, .bool d.down]) rfl
      have O4 := (o2.stN (w.heap.size + 1 + 1) 10 [.slice oa d.on.1 oc] (by omega)).stN (w.heap.size + 1 + 1) 11 [.slice none 0 0] (by omega)
      have G4 : Gat (layDrive.slice 84) 85 (stN (stN w2 (w.heap.size + 1 + 1) 10 [.slice oa d.on.1 oc]) (w.heap.size + 1 + 1) 11 [.slice none 0 0]) (w.heap.size + 1 + 1 + 1) (.slice ga d.groups.1 gc) d.groups.1 d.groups.2 := (G2.set _ 10 _ (by omega)).set _ 11 _ (by omega)
      have xc : (w2.setCell ⟨w.heap.size + 1 + 1, 10, none⟩ (.slice oa d.on.1 oc)).cell? ⟨w.heap.size + 1 + 1, 11, none⟩ = some (.slice ao3 d.tapes.1 cap3) := T3.b3.cell 11
      have xg : (w2.setCell ⟨w.heap.size + 1 + 1, 10, none⟩ (.slice oa d.on.1 oc)).frozen? ⟨w.heap.size + 1 + 1, 11, none⟩ = false := T3.b3.frozen 11
      have z2 : wo.heap.size ≤ w2.heap.size := Nat.le_trans bA.size b2.size
      have ez : (stN (stN w2 (w.heap.size + 1 + 1) 10 [.slice oa d.on.1 oc]) (w.heap.size + 1 + 1) 11 [.slice none 0 0]).heap.size = w2.heap.size := by rw [stN_size, stN_size]
      have GO : OwnT ((layDrive.slice 84).slice 85) wo (w.heap.size + 1 + 1 + 1) wo.heap.size d.groups [.slice ga d.groups.1 gc] := G1.own
      have GO4 := ((GO.call (bA.trans b2)).stN (w.heap.size + 1 + 1) 10 [.slice oa d.on.1 oc] (by omega)).stN (w.heap.size + 1 + 1) 11 [.slice none 0 0] (by omega)
      clear T1 TA T2 T3 G1 G2 G4 o2 b2 bA GO
      go_upto_region 19 with (at_builtin; refine wp_run2 rfl (.tmp 82) (.tmp 84) rfl ?_ ?_ hrun ?_; (simp [Act.eval]); (simp [Act.eval]))
      obtain ⟨W4, hW4⟩ : ∃ x, x = stN (stN w2 (w.heap.size + 1 + 1) 10 [.slice oa d.on.1 oc]) (w.heap.size + 1 + 1) 11 [.slice none 0 0] := ⟨_, rfl⟩
      change Code.wp Tryz.prog _ _ _ (stN (stN w2 (w.heap.size + 1 + 1) 10 [.slice oa d.on.1 oc]) (w.heap.size + 1 + 1) 11 [.slice none 0 0])
      rw [← hW4] at T4 O4 GO4 ez ⊢
      have HT4 : Hid (Three w W4 #[.int .i64 (d.shape 0), .int .i64 (d.shape 1), .int .i64 (d.shape 2), .int .i64 (d.shape 3), .int .i64 (d.shape 4), .int .i64 (d.shape 5), .int .i64 (d.shape 6), .int .i64 (d.shape 7), .int .i64 (d.shape 8), .slice ao1 d.groups.1 cap1, .slice ao2 d.on.1 cap2, .slice ao3 d.tapes.1 cap3, .int .i64 d.writes, .int .i64 d.stop, .bool d.down] #[.int .i64 0, .int .i64 0, .int .i64 0, .int .i64 0, .int .i64 0, .int .i64 0, .int .i64 0, .int .i64 0, .int .i64 0, .slice none 0 0, .slice none 0 0, .slice none 0 0, .int .i64 0, .int .i64 0, .bool false] #[.int .i64 (d.shape 0), .int .i64 (d.shape 1), .int .i64 (d.shape 2), .int .i64 (d.shape 3), .int .i64 (d.shape 4), .int .i64 (d.shape 5), .int .i64 (d.shape 6), .int .i64 (d.shape 7), .int .i64 (d.shape 8), .slice ga d.groups.1 gc, .slice oa d.on.1 oc, .slice none 0 0, .int .i64 d.writes, .int .i64 d.stop, .bool d.down] 34 34 34) := T4
      have HO4 : Hid (OwnT layInts W4 wo.heap.size w2.heap.size d.on [.slice oa d.on.1 oc]) := O4
      have HGO : Hid (OwnT ((layDrive.slice 84).slice 85) W4 (w.heap.size + 1 + 1 + 1) wo.heap.size d.groups [.slice ga d.groups.1 gc]) := GO4
      clear T4 O4 GO4 hW4 xa xb xf xc xg hrun x9
      go_wp2
      go_loopw [9] (fun i wr => ∃ (t : Nat) (ta : Option Addr) (tc : Nat), t ≤ d.tapes.1 ∧ i = .int .i64 t ∧ Box wr (w.heap.size + 1 + 1) #[.int .i64 (d.shape 0), .int .i64 (d.shape 1), .int .i64 (d.shape 2), .int .i64 (d.shape 3), .int .i64 (d.shape 4), .int .i64 (d.shape 5), .int .i64 (d.shape 6), .int .i64 (d.shape 7), .int .i64 (d.shape 8), .slice ga d.groups.1 gc, .slice oa d.on.1 oc, .slice ta t tc, .int .i64 d.writes, .int .i64 d.stop, .bool d.down] 34 ∧ Gat layTape 94 wr W4.heap.size (.slice ta t tc) t d.tapes.2 ∧ ChgL [w.heap.size + 1 + 1] W4 wr) (fun i _ => d.tapes.1 - (intOf i).toNat)
      case atStart => exact ⟨0, none, 0, Nat.zero_le _, rfl, HT4.out.b3, Gat.nil _ _ _, ChgL.refl _ _⟩
      case round =>
        obtain ⟨t, ta, tc, ht, rfl, X5, G5, C5⟩ := hrel
        obtain ⟨wx, rfl⟩ : ∃ x, x = wr := ⟨_, rfl⟩
        have T5 : Three w wx #[.int .i64 (d.shape 0), .int .i64 (d.shape 1), .int .i64 (d.shape 2), .int .i64 (d.shape 3), .int .i64 (d.shape 4), .int .i64 (d.shape 5), .int .i64 (d.shape 6), .int .i64 (d.shape 7), .int .i64 (d.shape 8), .slice ao1 d.groups.1 cap1, .slice ao2 d.on.1 cap2, .slice ao3 d.tapes.1 cap3, .int .i64 d.writes, .int .i64 d.stop, .bool d.down] #[.int .i64 0, .int .i64 0, .int .i64 0, .int .i64 0, .int .i64 0, .int .i64 0, .int .i64 0, .int .i64 0, .int .i64 0, .slice none 0 0, .slice none 0 0, .slice none 0 0, .int .i64 0, .int .i64 0, .bool false] #[.int .i64 (d.shape 0), .int .i64 (d.shape 1), .int .i64 (d.shape 2), .int .i64 (d.shape 3), .int .i64 (d.shape 4), .int .i64 (d.shape 5), .int .i64 (d.shape 6), .int .i64 (d.shape 7), .int .i64 (d.shape 8), .slice ga d.groups.1 gc, .slice oa d.on.1 oc, .slice ta t tc, .int .i64 d.writes, .int .i64 d.stop, .bool d.down] 34 34 34 := HT4.out.chgl3 _ X5 C5
        have HT5 : Hid (Three w wx #[.int .i64 (d.shape 0), .int .i64 (d.shape 1), .int .i64 (d.shape 2), .int .i64 (d.shape 3), .int .i64 (d.shape 4), .int .i64 (d.shape 5), .int .i64 (d.shape 6), .int .i64 (d.shape 7), .int .i64 (d.shape 8), .slice ao1 d.groups.1 cap1, .slice ao2 d.on.1 cap2, .slice ao3 d.tapes.1 cap3, .int .i64 d.writes, .int .i64 d.stop, .bool d.down] #[.int .i64 0, .int .i64 0, .int .i64 0, .int .i64 0, .int .i64 0, .int .i64 0, .int .i64 0, .int .i64 0, .int .i64 0, .slice none 0 0, .slice none 0 0, .slice none 0 0, .int .i64 0, .int .i64 0, .bool false] #[.int .i64 (d.shape 0), .int .i64 (d.shape 1), .int .i64 (d.shape 2), .int .i64 (d.shape 3), .int .i64 (d.shape 4), .int .i64 (d.shape 5), .int .i64 (d.shape 6), .int .i64 (d.shape 7), .int .i64 (d.shape 8), .slice ga d.groups.1 gc, .slice oa d.on.1 oc, .slice ta t tc, .int .i64 d.writes, .int .i64 d.stop, .bool d.down] 34 34 34) := T5
        have HG5 : Hid (Gat layTape 94 wx W4.heap.size (.slice ta t tc) t d.tapes.2) := G5
        have HC5 : Hid (ChgL [w.heap.size + 1 + 1] W4 wx) := C5
        have zx : W4.heap.size ≤ wx.heap.size := C5.size
        have x11 : wx.cell? ⟨w.heap.size, 11, none⟩ = some (.slice ao3 d.tapes.1 cap3) := T5.b1.cell 11
        have e11 : wx.cell? ⟨w.heap.size + 1 + 1, 11, none⟩ = some (.slice ta t tc) := T5.b3.cell 11
        by_cases hlt : t < d.tapes.1
        · obtain ⟨b3, off3, he3, hb3, hel3⟩ := HC3.out (by omega)
          subst he3
          obtain ⟨ct, hrt, hct⟩ := elem_rd (t := 0) hel3 T5.bel hhi hb3 hlt
          obtain ⟨ao7, cap7, rfl, g7⟩ := Tape_rd hrt
          have c0 : wx.cell? ⟨b3, off3 + t * 2, none⟩ = some (.bool (d.tapes.2 t).wiped) := hct 0 (by decide)
          have c1 : wx.cell? ⟨b3, off3 + t * 2 + 1, none⟩ = some (.slice ao7 (d.tapes.2 t).recs.1 cap7) := hct 1 (by decide)
          have HCA : Hid (wx.cell? ⟨b3, off3 + t * 2, none⟩ = some (.bool (d.tapes.2 t).wiped)) := c0
          have CC := l5CopyRecs_is _ (d.tapes.2 t).recs hi wx.drew ((layRec.slice 119).rd_below (B := hi) g7 ⟨rfl, rfl, rfl, Nat.le_refl _, fun _ _ => rfl⟩ (Nat.le_refl _)) (show hi ≤ wx.heap.size by omega) (HNT.out t hlt)
          have CC := CC.mono (R' := fun e w' => ∃ ra rc, e = .returned (.slice ra (d.tapes.2 t).recs.1 rc) ∧ OwnT (layRec.slice 119) w' wx.drew.heap.size w'.heap.size (d.tapes.2 t).recs [.slice ra (d.tapes.2 t).recs.1 rc] ∧ Below wx.drew.heap.size wx.drew w') (fun e w' ⟨v5, he, o5, b5'⟩ => by
            obtain ⟨ra, rc, hv5⟩ := sl_formT o5
            obtain rfl := one_eq hv5
            exact ⟨ra, rc, he, o5, b5'⟩)
          clear hel3 hct hrt g7 X5 G5 C5 T5
          have KS : ∀ w', Below (w.heap.size + 1 + 1 + 1) wx w' → (w'.cell? ⟨w.heap.size, 11, none⟩ = some (.slice (some ⟨b3, off3, none⟩) d.tapes.1 cap3) ∧ w'.cell? ⟨b3, off3 + t * 2, none⟩ = some (.bool (d.tapes.2 t).wiped) ∧ w'.cell? ⟨b3, off3 + t * 2 + 1, none⟩ = some (.slice ao7 (d.tapes.2 t).recs.1 cap7) ∧ w'.cell? ⟨w.heap.size + 1 + 1, 11, none⟩ = some (.slice ta t tc)) := fun w' hb => ⟨(hb.cell (p := ⟨w.heap.size, 11, none⟩) (by show w.heap.size < w.heap.size + 1 + 1 + 1; omega)).trans x11, (hb.cell (p := ⟨b3, off3 + t * 2, none⟩) (by show b3 < w.heap.size + 1 + 1 + 1; omega)).trans c0, (hb.cell (p := ⟨b3, off3 + t * 2 + 1, none⟩) (by show b3 < w.heap.size + 1 + 1 + 1; omega)).trans c1, (hb.cell (p := ⟨w.heap.size + 1 + 1, 11, none⟩) (Nat.lt_succ_self _)).trans e11⟩
          have i1 : (0 : Int) ≤ (t : Int) := by omega
          have i2 : (t : Int) < (d.tapes.1 : Int) := by omega
          go_upto_region 22 with fail
          refine wp_region_L 19 (fun w' => w'.cell? ⟨w.heap.size, 11, none⟩ = some (.slice (some ⟨b3, off3, none⟩) d.tapes.1 cap3) ∧ w'.cell? ⟨b3, off3 + t * 2, none⟩ = some (.bool (d.tapes.2 t).wiped) ∧ w'.cell? ⟨b3, off3 + t * 2 + 1, none⟩ = some (.slice ao7 (d.tapes.2 t).recs.1 cap7) ∧ w'.cell? ⟨w.heap.size + 1 + 1, 11, none⟩ = some (.slice ta t tc)) (by kernel_rfl) (KS _ ⟨rfl, rfl, rfl, Nat.le_refl _, fun _ _ => rfl⟩) (fun hHeld => ?_)
          refine wpAnyL_take (i := 0) (oi := _) (v := ?_) 16 rfl (by kernel_rfl) (fun _ _ _ h => h) (Or.inl ⟨by rfl, ?_⟩) (by assumption) ?_
          rotate_left
          · intro w' hSw
            try dsimp only at hSw
            obtain ⟨hq0, hq1, hq2, hq3⟩ := hSw
            go_simp
            try with_reducible rfl
          try simp only [Act.put, List.setIfInBounds_toArray, List.set_cons_zero, List.set_cons_succ]
          refine wpAnyL_take (i := 1) (oi := _) (v := ?_) 16 rfl (by kernel_rfl) (fun _ _ _ h => h) (Or.inl ⟨by rfl, ?_⟩) (by assumption) ?_
          rotate_left
          · intro w' hSw
            try dsimp only at hSw
            obtain ⟨hq0, hq1, hq2, hq3⟩ := hSw
            go_simp
            try with_reducible rfl
          try simp only [Act.put, List.setIfInBounds_toArray, List.set_cons_zero, List.set_cons_succ]
          refine wpAnyL_take (i := 2) (oi := _) (v := ?_) 16 rfl (by kernel_rfl) (fun _ _ _ h => h) (Or.inl ⟨by rfl, ?_⟩) (by assumption) ?_
          rotate_left
          · intro w' hSw
            try dsimp only at hSw
            obtain ⟨hq0, hq1, hq2, hq3⟩ := hSw
            go_simp
            try with_reducible rfl
          try simp only [Act.put, List.setIfInBounds_toArray, List.set_cons_zero, List.set_cons_succ]
          refine wpAnyL_take (i := 3) (oi := _) (v := ?_) 16 rfl (by kernel_rfl) (fun _ _ _ h => h) (Or.inl ⟨by rfl, ?_⟩) (by assumption) ?_
          rotate_left
          · intro w' hSw
            try dsimp only at hSw
            obtain ⟨hq0, hq1, hq2, hq3⟩ := hSw
            go_simp
            try with_reducible rfl
          try simp only [Act.put, List.setIfInBounds_toArray, List.set_cons_zero, List.set_cons_succ]
          refine wpAnyL_take (i := 4) (oi := _) (v := ?_) 16 rfl (by kernel_rfl) (fun _ _ _ h => h) (Or.inl ⟨by rfl, ?_⟩) (by assumption) ?_
          rotate_left
          · intro w' hSw
            try dsimp only at hSw
            obtain ⟨hq0, hq1, hq2, hq3⟩ := hSw
            go_simp
            try with_reducible rfl
          try simp only [Act.put, List.setIfInBounds_toArray, List.set_cons_zero, List.set_cons_succ]
          refine wpAnyL_take (i := 5) (oi := _) (v := ?_) 16 rfl (by kernel_rfl) (fun _ _ _ h => h) (Or.inl ⟨by rfl, ?_⟩) (by assumption) ?_
          rotate_left
          · intro w' hSw
            try dsimp only at hSw
            obtain ⟨hq0, hq1, hq2, hq3⟩ := hSw
            go_simp
            try with_reducible rfl
          try simp only [Act.put, List.setIfInBounds_toArray, List.set_cons_zero, List.set_cons_succ]
          refine wpAnyL_take (i := 6) (oi := _) (v := ?_) 16 rfl (by kernel_rfl) (fun _ _ _ h => h) (Or.inl ⟨by rfl, ?_⟩) (by assumption) ?_
          rotate_left
          · intro w' hSw
            try dsimp only at hSw
            obtain ⟨hq0, hq1, hq2, hq3⟩ := hSw
            go_simp
            try with_reducible rfl
          try simp only [Act.put, List.setIfInBounds_toArray, List.set_cons_zero, List.set_cons_succ]
          refine wpAnyL_take (i := 7) (oi := _) (v := ?_) 16 rfl (by kernel_rfl) (fun _ _ _ h => h) (Or.inl ⟨by rfl, ?_⟩) (by assumption) ?_
          rotate_left
          · intro w' hSw
            try dsimp only at hSw
            obtain ⟨hq0, hq1, hq2, hq3⟩ := hSw
            go_simp
            try with_reducible rfl
          try simp only [Act.put, List.setIfInBounds_toArray, List.set_cons_zero, List.set_cons_succ]
          refine wpAnyL_take (i := 8) (oi := _) (v := ?_) 16 rfl (by kernel_rfl) (fun _ _ _ h => h) (Or.inl ⟨by rfl, ?_⟩) (by assumption) ?_
          rotate_left
          · intro w' hSw
            try dsimp only at hSw
            obtain ⟨hq0, hq1, hq2, hq3⟩ := hSw
            go_simp
            try with_reducible rfl
          try simp only [Act.put, List.setIfInBounds_toArray, List.set_cons_zero, List.set_cons_succ]
          refine wpAnyL_take (i := 9) (oi := _) (v := ?_) 16 rfl (by kernel_rfl) (fun _ _ _ h => h) (Or.inl ⟨by rfl, ?_⟩) (by assumption) ?_
          rotate_left
          · intro w' hSw
            try dsimp only at hSw
            obtain ⟨hq0, hq1, hq2, hq3⟩ := hSw
            go_simp
            try with_reducible rfl
          try simp only [Act.put, List.setIfInBounds_toArray, List.set_cons_zero, List.set_cons_succ]
          refine wpAnyL_take (i := 10) (oi := _) (v := ?_) 16 rfl (by kernel_rfl) (fun _ _ _ h => h) (Or.inl ⟨by rfl, ?_⟩) (by assumption) ?_
          rotate_left
          · intro w' hSw
            try dsimp only at hSw
            obtain ⟨hq0, hq1, hq2, hq3⟩ := hSw
            go_simp
            try with_reducible rfl
          try simp only [Act.put, List.setIfInBounds_toArray, List.set_cons_zero, List.set_cons_succ]
          refine wpAnyL_take (i := 11) (oi := _) (v := ?_) 16 rfl (by kernel_rfl) (fun _ _ _ h => h) (Or.inl ⟨by rfl, ?_⟩) (by assumption) ?_
          rotate_left
          · intro w' hSw
            try dsimp only at hSw
            obtain ⟨hq0, hq1, hq2, hq3⟩ := hSw
            go_simp
            try with_reducible rfl
          try simp only [Act.put, List.setIfInBounds_toArray, List.set_cons_zero, List.set_cons_succ]
          refine wpAnyL_take (i := 12) (oi := _) (v := ?_) 16 rfl (by kernel_rfl) (fun _ _ _ h => h) (Or.inl ⟨by rfl, ?_⟩) (by assumption) ?_
          rotate_left
          · intro w' hSw
            try dsimp only at hSw
            obtain ⟨hq0, hq1, hq2, hq3⟩ := hSw
            go_simp
            try with_reducible rfl
          try simp only [Act.put, List.setIfInBounds_toArray, List.set_cons_zero, List.set_cons_succ]
          refine wpAnyL_take (i := 13) (oi := _) (v := ?_) 16 rfl (by kernel_rfl) (fun _ _ _ h => h) (Or.inl ⟨by rfl, ?_⟩) (by assumption) ?_
          rotate_left
          · intro w' hSw
            try dsimp only at hSw
            obtain ⟨hq0, hq1, hq2, hq3⟩ := hSw
            go_simp
            try with_reducible rfl
          try simp only [Act.put, List.setIfInBounds_toArray, List.set_cons_zero, List.set_cons_succ]
          refine wpAnyL_one (i := 14) (o := _) rfl (by kernel_rfl) (fun K hK => ?_)
          refine step_call rfl 74 _ _ rfl #[.slice ao7 (d.tapes.2 t).recs.1 cap7] ?_ Tryz.func74 (by kernel_rfl) (by kernel_rfl) CC ?_; (simp [Act.eval, Act.put]); rintro ee w5 ⟨ra, rc, rfl, o5, b5'⟩; have b5w : Below wx.heap.size wx w5 := ⟨b5'.os, b5'.tape, b5'.output, b5'.size, b5'.block⟩; have T6 := HT5.out.call b5w; have q1 : w5.cell? ⟨w.heap.size + 1 + 1, 11, none⟩ = some (.slice ta t tc) := T6.b3.cell 11; have q3 := (cell_alloc_old w5 (.cells #[.bool (d.tapes.2 t).wiped, .slice ra (d.tapes.2 t).recs.1 rc] 94) (w.heap.size + 1 + 1) 11 (by have := b5w.size; omega)).trans q1; clear T6; refine ⟨_, rfl, ?_⟩
          refine hK.out _ _ (KS _ (b5w.mono (by omega))) (fun hHeld => ?_)
          clear hK K
          try simp only [Act.put, List.setIfInBounds_toArray, List.set_cons_zero, List.set_cons_succ]
          refine wpAnyL_take (i := 15) (oi := _) (v := ?_) 16 rfl (by kernel_rfl) (fun _ _ _ h => h) (Or.inl ⟨by rfl, ?_⟩) (by assumption) ?_
          rotate_left
          · intro w' hSw
            try dsimp only at hSw
            obtain ⟨hq0, hq1, hq2, hq3⟩ := hSw
            go_simp
            try with_reducible rfl
          try simp only [Act.put, List.setIfInBounds_toArray, List.set_cons_zero, List.set_cons_succ]
          refine wpAnyL_one (i := 16) (o := _) rfl (by kernel_rfl) (fun K hK => ?_)
          go_simp
          refine hK.out _ _ (KS _ ((b5w.mono (by omega)).alloc (by have := b5w.size; omega) _)) (fun hHeld => ?_)
          clear hK K
          try simp only [Act.put, List.setIfInBounds_toArray, List.set_cons_zero, List.set_cons_succ]
          refine wpAnyL_one (i := 17) (o := _) rfl (by kernel_rfl) (fun K hK => ?_)
          refine step_appendN el_Tape rfl (.tmp 96) (.tmp 111) rfl (lo := W4.heap.size) (n := t) (v := .slice ta t tc) (x := d.tapes.2) ?_ HG5.out b5w (tape_of' o5) ?_ w5.heap.size 1 ?_ (fun j _ => cells_new w5 _ _ j) (by omega) (by omega) ?_; (simp [Act.eval, Act.put]); (exact (Below.refl _ _).alloc (Nat.le_refl _) _); (simp [Act.eval, Act.put]); intro v4 w4 g4 b4; obtain ⟨ta4, tc4, rfl⟩ := g4.form; have X4 := HT5.out.b3.below b4 (by omega); have p1 : w4.cell? ⟨w.heap.size + 1 + 1, 11, none⟩ = some (.slice ta t tc) := X4.cell 11; have p2 : w4.frozen? ⟨w.heap.size + 1 + 1, 11, none⟩ = false := X4.frozen 11
          refine hK.out _ _ (KS _ (b4.mono (by omega))) (fun hHeld => ?_)
          clear hK K
          try simp only [Act.put, List.setIfInBounds_toArray, List.set_cons_zero, List.set_cons_succ]
          refine wpAnyL_one (i := 18) (o := _) rfl (by kernel_rfl) (fun K hK => ?_)
          go_simp
          refine hK.out _ _ (KS _ (b4.mono (by omega))) (fun hHeld => ?_)
          clear hK K
          try simp only [Act.put, List.setIfInBounds_toArray, List.set_cons_zero, List.set_cons_succ]
          refine wpAnyL_last (o := _) rfl (by kernel_rfl) (fun K hK => ?_)
          go_simp
          refine hK.out _ _ ?_
          clear hK K
          try simp only [Act.put, List.setIfInBounds_toArray, List.set_cons_zero, List.set_cons_succ]
          refine wpAnyL_done (by kernel_rfl) ?_ _
          go_wp2
          go_roundw
          case rel => exact ⟨t + 1, ta4, tc4, by omega, by go_num, X4.stL [.slice ta4 (t + 1) tc4] 11, (g4.set _ _ _ (by omega)).congr (fun i _ => by rw [upd_self]), (HC5.out.after b4).st (w.heap.size + 1 + 1) 11 _ (by simp)⟩
          case measure => simp [intOf]; omega
        · obtain rfl : t = d.tapes.1 := by omega
          clear X5 e11
          have F0 : OwnT layWorld wx (w.heap.size + 1 + 1 + 1) wx.heap.size d [.int .i64 (d.shape 0), .int .i64 (d.shape 1), .int .i64 (d.shape 2), .int .i64 (d.shape 3), .int .i64 (d.shape 4), .int .i64 (d.shape 5), .int .i64 (d.shape 6), .int .i64 (d.shape 7), .int .i64 (d.shape 8), .slice ga d.groups.1 gc, .slice oa d.on.1 oc, .slice ta d.tapes.1 tc, .int .i64 d.writes, .int .i64 d.stop, .bool d.down] := by
            have C5' := C5
            clear T5 G5 C5
            have F : OwnT layWorld wx (w.heap.size + 1 + 1 + 1) wx.heap.size d ([.int .i64 (d.shape 0), .int .i64 (d.shape 1), .int .i64 (d.shape 2), .int .i64 (d.shape 3), .int .i64 (d.shape 4), .int .i64 (d.shape 5), .int .i64 (d.shape 6), .int .i64 (d.shape 7), .int .i64 (d.shape 8)] ++ ([.slice ga d.groups.1 gc] ++ ([.slice oa d.on.1 oc] ++ ([.slice ta d.tapes.1 tc] ++ ([.int .i64 d.writes] ++ ([.int .i64 d.stop] ++ [.bool d.down])))))) := OwnT.conv (OwnT.pre (A := (layNums 9)) (a := d.shape) (c := [.int .i64 (d.shape 0), .int .i64 (d.shape 1), .int .i64 (d.shape 2), .int .i64 (d.shape 3), .int .i64 (d.shape 4), .int .i64 (d.shape 5), .int .i64 (d.shape 6), .int .i64 (d.shape 7), .int .i64 (d.shape 8)]) ⟨rfl, Q0.out, rfl⟩ (OwnT.two (HGO.out.chgl HC5.out (fun b hb => by simp at hb; omega)) (OwnT.two (HO4.out.chgl HC5.out (fun b hb => by simp at hb; omega)) (OwnT.two (HG5.out.own.weaken (show w2.heap.size ≤ W4.heap.size by omega) (Nat.le_refl _)) (OwnT.pre (A := layI) (a := d.writes) (c := [.int .i64 d.writes]) ⟨rfl, Q4.out, rfl⟩ (OwnT.pre (A := layI) (a := d.stop) (c := [.int .i64 d.stop]) ⟨rfl, Q5.out, rfl⟩ (OwnT.nil (A := layB) (a := d.down) (c := [.bool d.down]) ⟨rfl, trivial, rfl⟩ wx.heap.size wx.heap.size))) (Nat.le_refl _) (by omega) (Nat.le_refl _)) (by omega) (by omega) (by omega)) (by omega) (by omega) (by omega)))
            exact F
          have HF : Hid (OwnT layWorld wx (w.heap.size + 1 + 1 + 1) wx.heap.size d [.int .i64 (d.shape 0), .int .i64 (d.shape 1), .int .i64 (d.shape 2), .int .i64 (d.shape 3), .int .i64 (d.shape 4), .int .i64 (d.shape 5), .int .i64 (d.shape 6), .int .i64 (d.shape 7), .int .i64 (d.shape 8), .slice ga d.groups.1 gc, .slice oa d.on.1 oc, .slice ta d.tapes.1 tc, .int .i64 d.writes, .int .i64 d.stop, .bool d.down]) := F0
          clear G5 C5
          go_wp2_with (first | (refine wp_loadBox 34 (.tmp 3) rfl rfl (w.heap.size + 1 + 1) rfl (cs := [.int .i64 (d.shape 0), .int .i64 (d.shape 1), .int .i64 (d.shape 2), .int .i64 (d.shape 3), .int .i64 (d.shape 4), .int .i64 (d.shape 5), .int .i64 (d.shape 6), .int .i64 (d.shape 7), .int .i64 (d.shape 8), .slice ga d.groups.1 gc, .slice oa d.on.1 oc, .slice ta d.tapes.1 tc, .int .i64 d.writes, .int .i64 d.stop, .bool d.down]) T5.b3 Tryz.underlying34 size_W rfl ?_) | (refine wp_storeBox 34 _ _ rfl rfl (w.heap.size + 1) rfl (cs := [.int .i64 (d.shape 0), .int .i64 (d.shape 1), .int .i64 (d.shape 2), .int .i64 (d.shape 3), .int .i64 (d.shape 4), .int .i64 (d.shape 5), .int .i64 (d.shape 6), .int .i64 (d.shape 7), .int .i64 (d.shape 8), .slice ga d.groups.1 gc, .slice oa d.on.1 oc, .slice ta d.tapes.1 tc, .int .i64 d.writes, .int .i64 d.stop, .bool d.down]) (old := [.int .i64 0, .int .i64 0, .int .i64 0, .int .i64 0, .int .i64 0, .int .i64 0, .int .i64 0, .int .i64 0, .int .i64 0, .slice none 0 0, .slice none 0 0, .slice none 0 0, .int .i64 0, .int .i64 0, .bool false]) rfl T5.b2 size_W rfl rfl F0.one ?_; intro w9 X9 C9 z9))
          refine ret_box Tryz.results37 rfl X9 Tryz.underlying34 size_W rfl rfl ?_
          refine ⟨[.int .i64 (d.shape 0), .int .i64 (d.shape 1), .int .i64 (d.shape 2), .int .i64 (d.shape 3), .int .i64 (d.shape 4), .int .i64 (d.shape 5), .int .i64 (d.shape 6), .int .i64 (d.shape 7), .int .i64 (d.shape 8), .slice ga d.groups.1 gc, .slice oa d.on.1 oc, .slice ta d.tapes.1 tc, .int .i64 d.writes, .int .i64 d.stop, .bool d.down], rfl, ?_, ?_⟩
          · exact (HF.out.chgk C9 (fun b hb => by simp at hb; omega)).weaken (by omega) C9.size
          · exact T5.bel.trans (C9.bel (fun b hb => by simp at hb; omega) T5.bel.size)
end Go.Proofs.YtbmfndjglndnlaaGreat
