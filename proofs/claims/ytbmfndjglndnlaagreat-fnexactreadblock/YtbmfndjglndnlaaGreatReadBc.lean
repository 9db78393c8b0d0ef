/- Walks of ReadBlock, of both sides. -/
import Derived.Test.YtbmfndjglndnlaaGreatZwN
import Derived.Test.YtbmfndjglndnlaaGreatZwK
import Derived.Test.YtbmfndjglndnlaaGreatZwJ
import Derived.Deep.DeepCutAuto
namespace Go.Proofs.YtbmfndjglndnlaaGreat
open Go.RowKit F256
set_option linter.unusedVariables false
set_option linter.unusedSimpArgs false
set_option maxHeartbeats 16000000 in
set_option maxRecDepth 20000 in
theorem specRead_any (d : WorldD) (g k r : Int) (cs : List Value) (hi : Nat) (w : World) (h : layWorld.rd w hi d cs) (hhi : hi ≤ w.heap.size) (hsz : szWorldD d ≤ 1048576) :
    Calls Tryz.prog 20 #[.agg cs.toArray, .int .i64 g, .int .i64 k, .int .i64 r] w (BResPost (ReadAns d g k r) w) := by
  have CQ := fun w' hb => l5Asked_any d cs hi w' (layWorld.rd_below h (B := w.heap.size) hb hhi)
  obtain ⟨ao1, cap1, ao2, cap2, ao3, cap3, rfl, g1, g2, g3, -⟩ := World_rd h
  obtain ⟨_, e2, ⟨h2, _⟩, _⟩ := g2
  cases e2
  obtain ⟨_, _, e1, hm1, hc1⟩ := g1
  cases e1
  have HC1 : Hid (d.groups.1 ≠ 0 → ∃ b off, ao1 = some ⟨b, off, none⟩ ∧ b < hi ∧ ∀ i, i < d.groups.1 → ∃ ce, (layDrive.slice 84).rd w hi (d.groups.2 i) ce ∧ ∀ j, j < (layDrive.slice 84).sz → w.cell? ⟨b, off + (i * (layDrive.slice 84).sz + j), none⟩ = ce[j]?) := hc1
  have HR2 : Hid (RdI w hi (.slice ao2 d.on.1 cap2) d.on.1 d.on.2) := h2
  have HSZ : Hid (szWorldD d ≤ 1048576) := hsz
  have T0 := two_newb w #[.int .i64 (d.shape 0), .int .i64 (d.shape 1), .int .i64 (d.shape 2), .int .i64 (d.shape 3), .int .i64 (d.shape 4), .int .i64 (d.shape 5), .int .i64 (d.shape 6), .int .i64 (d.shape 7), .int .i64 (d.shape 8), .slice ao1 d.groups.1 cap1, .slice ao2 d.on.1 cap2, .slice ao3 d.tapes.1 cap3, .int .i64 d.writes, .int .i64 d.stop, .bool d.down] #[.int .i64 0, .int .i64 0, .slice none 0 0] 34 48
  clear h g3 h2 hc1 hm1 hsz
  go_enter Tryz.func20, Tryz.ntmps20
  go_wp2_with (refine wp_loadBox 34 (.tmp 4) rfl rfl w.heap.size rfl (cs := [.int .i64 (d.shape 0), .int .i64 (d.shape 1), .int .i64 (d.shape 2), .int .i64 (d.shape 3), .int .i64 (d.shape 4), .int .i64 (d.shape 5), .int .i64 (d.shape 6), .int .i64 (d.shape 7), .int .i64 (d.shape 8), .slice ao1 d.groups.1 cap1, .slice ao2 d.on.1 cap2, .slice ao3 d.tapes.1 cap3, .int .i64 d.writes, .int .i64 d.stop, .bool d.down]) T0.b1 Tryz.underlying34 size_W rfl ?_)
  refine (CQ _ T0.bel (Nat.le_trans hhi T0.bel.size) HSZ.out).mono ?_
  rintro e w1 ⟨x, rfl, hx, b1⟩
  have T1 := T0.call b1
  have HT1 : Hid (Two w w1 #[.int .i64 (d.shape 0), .int .i64 (d.shape 1), .int .i64 (d.shape 2), .int .i64 (d.shape 3), .int .i64 (d.shape 4), .int .i64 (d.shape 5), .int .i64 (d.shape 6), .int .i64 (d.shape 7), .int .i64 (d.shape 8), .slice ao1 d.groups.1 cap1, .slice ao2 d.on.1 cap2, .slice ao3 d.tapes.1 cap3, .int .i64 d.writes, .int .i64 d.stop, .bool d.down] #[.int .i64 0, .int .i64 0, .slice none 0 0] 34 48) := T1
  have HX : Hid (AskAns d x) := hx
  have z1 : w.heap.size + 1 < w1.heap.size := T1.b2.lt
  clear T0 b1 CQ hx
  by_cases hx0 : x = 0
  case neg =>
    have hne : (x != 0) = true := by simp [hx0]
    have r_0 : w1.cell? ⟨w.heap.size + 1, 0, none⟩ = some (.int .i64 0) := T1.b2.cell 0
    have rf_0 : w1.frozen? ⟨w.heap.size + 1, 0, none⟩ = false := T1.b2.frozen 0
    have r_1 : w1.cell? ⟨w.heap.size + 1, 1, none⟩ = some (.int .i64 0) := T1.b2.cell 1
    have rf_1 : w1.frozen? ⟨w.heap.size + 1, 1, none⟩ = false := T1.b2.frozen 1
    have r_2 : w1.cell? ⟨w.heap.size + 1, 2, none⟩ = some (.slice none 0 0) := T1.b2.cell 2
    have rf_2 : w1.frozen? ⟨w.heap.size + 1, 2, none⟩ = false := T1.b2.frozen 2
    have HB : Hid (Below w.heap.size w w1) := T1.bel
    clear T1
    go_wp2
    refine bodyPost_ret (v := .agg #[.int .i64 x, .int .i64 0, .slice none 0 0]) (by simp [results, Tryz.results20, go_sem, r_0, r_1, r_2]) rfl ?_
    refine ⟨⟨x, zeroBl⟩, [.int .i64 x, .int .i64 0, .slice none 0 0], rfl, .inl ⟨x, hx0, HX.out, rfl⟩, own_bresCode _ x (ask_small HX.out) _ _, ?_⟩
    exact HB.out.trans (stN_below (by omega) [.int .i64 x, .int .i64 0, .slice none 0 0] 0)
  subst hx0
  have hok := ask_ok HX.out
  have HOK : Hid (OkWorld d) := hok
  have x_0 : w1.cell? ⟨w.heap.size, 0, none⟩ = some (.int .i64 (d.shape 0)) := T1.b1.cell 0
  have x_1 : w1.cell? ⟨w.heap.size, 1, none⟩ = some (.int .i64 (d.shape 1)) := T1.b1.cell 1
  have x_2 : w1.cell? ⟨w.heap.size, 2, none⟩ = some (.int .i64 (d.shape 2)) := T1.b1.cell 2
  have x_3 : w1.cell? ⟨w.heap.size, 3, none⟩ = some (.int .i64 (d.shape 3)) := T1.b1.cell 3
  have x_4 : w1.cell? ⟨w.heap.size, 4, none⟩ = some (.int .i64 (d.shape 4)) := T1.b1.cell 4
  have x_5 : w1.cell? ⟨w.heap.size, 5, none⟩ = some (.int .i64 (d.shape 5)) := T1.b1.cell 5
  have x_6 : w1.cell? ⟨w.heap.size, 6, none⟩ = some (.int .i64 (d.shape 6)) := T1.b1.cell 6
  have x_7 : w1.cell? ⟨w.heap.size, 7, none⟩ = some (.int .i64 (d.shape 7)) := T1.b1.cell 7
  have x_8 : w1.cell? ⟨w.heap.size, 8, none⟩ = some (.int .i64 (d.shape 8)) := T1.b1.cell 8
  have x_10 : w1.cell? ⟨w.heap.size, 10, none⟩ = some (.slice ao2 d.on.1 cap2) := T1.b1.cell 10
  clear T1
  have CP := fun w' => l5Place_any d.shape hok.shape g k r w'
  unfold shapeV at CP
  clear hok
  go_wp2_with fail
  refine (CP _).mono ?_
  rintro e w2 ⟨t, rfl, ht, b2⟩
  have T2 := HT1.out.call b2
  have HT2 : Hid (Two w w2 #[.int .i64 (d.shape 0), .int .i64 (d.shape 1), .int .i64 (d.shape 2), .int .i64 (d.shape 3), .int .i64 (d.shape 4), .int .i64 (d.shape 5), .int .i64 (d.shape 6), .int .i64 (d.shape 7), .int .i64 (d.shape 8), .slice ao1 d.groups.1 cap1, .slice ao2 d.on.1 cap2, .slice ao3 d.tapes.1 cap3, .int .i64 d.writes, .int .i64 d.stop, .bool d.down] #[.int .i64 0, .int .i64 0, .slice none 0 0] 34 48) := T2
  have HP : Hid (t = true ↔ PlaceP d.shape g k r) := ht
  clear b2 ht CP HT1 x_0 x_1 x_2 x_3 x_4 x_5 x_6 x_7 x_8 x_10
  cases t with
  | false =>
    have r_0 : w2.cell? ⟨w.heap.size + 1, 0, none⟩ = some (.int .i64 0) := T2.b2.cell 0
    have rf_0 : w2.frozen? ⟨w.heap.size + 1, 0, none⟩ = false := T2.b2.frozen 0
    have r_1 : w2.cell? ⟨w.heap.size + 1, 1, none⟩ = some (.int .i64 0) := T2.b2.cell 1
    have rf_1 : w2.frozen? ⟨w.heap.size + 1, 1, none⟩ = false := T2.b2.frozen 1
    have r_2 : w2.cell? ⟨w.heap.size + 1, 2, none⟩ = some (.slice none 0 0) := T2.b2.cell 2
    have rf_2 : w2.frozen? ⟨w.heap.size + 1, 2, none⟩ = false := T2.b2.frozen 2
    have HB : Hid (Below w.heap.size w w2) := T2.bel
    clear T2
    go_wp2
    refine bodyPost_ret (v := .agg #[.int .i64 3, .int .i64 0, .slice none 0 0]) (by simp [results, Tryz.results20, go_sem, r_0, r_1, r_2]) rfl ?_
    refine ⟨⟨3, zeroBl⟩, [.int .i64 3, .int .i64 0, .slice none 0 0], rfl, .inr ⟨HX.out, .inl ⟨fun h => by have := HP.out.2 h; simp at this, rfl⟩⟩, own_bresCode _ 3 (by decide) _ _, ?_⟩
    exact HB.out.trans (stN_below (by omega) [.int .i64 3, .int .i64 0, .slice none 0 0] 0)
  | true =>
  have hpl := HP.out.1 (by simp)
  have x10 : w2.cell? ⟨w.heap.size, 10, none⟩ = some (.slice ao2 d.on.1 cap2) := T2.b1.cell 10
  clear T2
  go_wp2_with fail
  refine (l1Has_any _ d.on.1 d.on.2 hi g _ (HR2.out.below HT2.out.bel hhi)).mono ?_
  rintro e w3 ⟨t, rfl, ht, b3⟩
  have T3 := HT2.out.call b3
  have HT3 : Hid (Two w w3 #[.int .i64 (d.shape 0), .int .i64 (d.shape 1), .int .i64 (d.shape 2), .int .i64 (d.shape 3), .int .i64 (d.shape 4), .int .i64 (d.shape 5), .int .i64 (d.shape 6), .int .i64 (d.shape 7), .int .i64 (d.shape 8), .slice ao1 d.groups.1 cap1, .slice ao2 d.on.1 cap2, .slice ao3 d.tapes.1 cap3, .int .i64 d.writes, .int .i64 d.stop, .bool d.down] #[.int .i64 0, .int .i64 0, .slice none 0 0] 34 48) := T3
  have HH : Hid (t = true ↔ HasP d.on.1 d.on.2 g) := ht
  have HPL : Hid (PlaceP d.shape g k r) := hpl
  clear b3 ht HT2 x10
  cases t with
  | false =>
    clear hpl
    have r_0 : w3.cell? ⟨w.heap.size + 1, 0, none⟩ = some (.int .i64 0) := T3.b2.cell 0
    have rf_0 : w3.frozen? ⟨w.heap.size + 1, 0, none⟩ = false := T3.b2.frozen 0
    have r_1 : w3.cell? ⟨w.heap.size + 1, 1, none⟩ = some (.int .i64 0) := T3.b2.cell 1
    have rf_1 : w3.frozen? ⟨w.heap.size + 1, 1, none⟩ = false := T3.b2.frozen 1
    have r_2 : w3.cell? ⟨w.heap.size + 1, 2, none⟩ = some (.slice none 0 0) := T3.b2.cell 2
    have rf_2 : w3.frozen? ⟨w.heap.size + 1, 2, none⟩ = false := T3.b2.frozen 2
    have HB : Hid (Below w.heap.size w w3) := T3.bel
    clear T3
    go_wp2
    refine bodyPost_ret (v := .agg #[.int .i64 8, .int .i64 0, .slice none 0 0]) (by simp [results, Tryz.results20, go_sem, r_0, r_1, r_2]) rfl ?_
    refine ⟨⟨8, zeroBl⟩, [.int .i64 8, .int .i64 0, .slice none 0 0], rfl, .inr ⟨HX.out, .inr ⟨HPL.out, .inl ⟨fun h => by have := HH.out.2 h; simp at this, rfl⟩⟩⟩, own_bresCode _ 8 (by decide) _ _, ?_⟩
    exact HB.out.trans (stN_below (by omega) [.int .i64 8, .int .i64 0, .slice none 0 0] 0)
  | true =>
  obtain ⟨hA, hB, hC⟩ := hpl
  have hf := HOK.out.form.1
  unfold InP at hA hB hC
  obtain ⟨G, rfl⟩ : ∃ G : Nat, g = (G : Int) := ⟨g.toNat, by omega⟩
  obtain ⟨K, rfl⟩ : ∃ K : Nat, k = (K : Int) := ⟨k.toNat, by omega⟩
  obtain ⟨R, rfl⟩ : ∃ R : Nat, r = (R : Int) := ⟨r.toNat, by omega⟩
  have hG : G < d.groups.1 := by have := hf.1; omega
  have hK : K < (d.groups.2 G).1 := by have := (hf.2 G hG).1; omega
  have hD := (hf.2 G hG).2 K hK
  have hR : R < ((d.groups.2 G).2 K).blocks.1 := by have := hD.1; omega
  obtain ⟨b1, off1, he1, hb1, hel1⟩ := HC1.out (by omega)
  subst he1
  obtain ⟨cg, hrg, hcg⟩ := elem_rd (t := 0) hel1 T3.bel hhi hb1 hG
  obtain ⟨ao9, cap9, rfl⟩ := sl_form hrg
  have c0 : w3.cell? ⟨b1, off1 + G, none⟩ = some (.slice ao9 (d.groups.2 G).1 cap9) := by
    have := hcg 0 (by decide)
    have e : off1 + (G * (layDrive.slice 84).sz + 0) = off1 + G := by show off1 + (G * 1 + 0) = off1 + G; omega
    rw [e] at this
    exact this
  obtain ⟨_, _, e9, hm9, hc9⟩ := hrg
  cases e9
  obtain ⟨b9, off9, he9, hb9, hel9⟩ := hc9 (by omega)
  subst he9
  obtain ⟨cd, hrd, hcd⟩ := hel9 K hK
  obtain ⟨ao5, cap5, rfl, g5⟩ := Drive_rd hrd
  obtain ⟨D, hDD⟩ : ∃ x, x = (d.groups.2 G).2 K := ⟨_, rfl⟩
  rw [← hDD] at hcd g5 hR
  have HD : Hid (drvAt d (G : Int) (K : Int) = D) := by show (d.groups.2 (G : Int).toNat).2 (K : Int).toNat = D; rw [hDD]; rfl
  have c2 : w3.cell? ⟨b9, off9 + K * 2, none⟩ = some (.bool D.wiped) := hcd 0 (by decide)
  have c3 : w3.cell? ⟨b9, off9 + K * 2 + 1, none⟩ = some (.slice ao5 D.blocks.1 cap5) := hcd 1 (by decide)
  obtain ⟨_, _, e5, hm5, hc5⟩ := g5
  cases e5
  obtain ⟨b5, off5, he5, hb5, hel5⟩ := hc5 (by omega)
  subst he5
  obtain ⟨cb, hrb, hcb⟩ := hel5 R hR
  have hbz : szBlockD (D.blocks.2 R) ≤ 1048576 := by
    have h1 : szSl (szSl szDriveD) d.groups ≤ 1048576 := by have := HSZ.out; unfold szWorldD at this; omega
    have h2 : szSl szDriveD (d.groups.2 G) ≤ 1048576 := szSl_at h1 hG
    have h3 : szDriveD ((d.groups.2 G).2 K) ≤ 1048576 := szSl_at h2 hK
    rw [← hDD] at h3
    exact szSl_at (s := szBlockD) (p := D.blocks) h3 hR
  have CC := l5CopyBlock_is _ (D.blocks.2 R) hi w3 hrb (Nat.le_trans hhi T3.bel.size) hbz
  obtain ⟨ao0, cap0, rfl, -⟩ := Block_rd hrb
  have s0 : w3.cell? ⟨b5, off5 + R * 2, none⟩ = some (.int .i64 (D.blocks.2 R).stamp) := hcb 0 (by decide)
  have s1 : w3.cell? ⟨b5, off5 + R * 2 + 1, none⟩ = some (.slice ao0 (D.blocks.2 R).bytes.1 cap0) := hcb 1 (by decide)
  have x9 : w3.cell? ⟨w.heap.size, 9, none⟩ = some (.slice (some ⟨b1, off1, none⟩) d.groups.1 cap1) := T3.b1.cell 9
  obtain ⟨u, hu⟩ : ∃ b, b = D.wiped := ⟨_, rfl⟩
  rw [← hu] at c2
  have HU : Hid (D.wiped = u) := hu.symm
  clear hel1 hcg hel9 hcd hrd hel5 hcb hrb hDD hbz hf hD hu hc9 hc5 hm9 hm5
  cases u with
  | true =>
    have r_0 : w3.cell? ⟨w.heap.size + 1, 0, none⟩ = some (.int .i64 0) := T3.b2.cell 0
    have rf_0 : w3.frozen? ⟨w.heap.size + 1, 0, none⟩ = false := T3.b2.frozen 0
    have r_1 : w3.cell? ⟨w.heap.size + 1, 1, none⟩ = some (.int .i64 0) := T3.b2.cell 1
    have rf_1 : w3.frozen? ⟨w.heap.size + 1, 1, none⟩ = false := T3.b2.frozen 1
    have r_2 : w3.cell? ⟨w.heap.size + 1, 2, none⟩ = some (.slice none 0 0) := T3.b2.cell 2
    have rf_2 : w3.frozen? ⟨w.heap.size + 1, 2, none⟩ = false := T3.b2.frozen 2
    have HB : Hid (Below w.heap.size w w3) := T3.bel
    clear T3
    go_wp2
    refine bodyPost_ret (v := .agg #[.int .i64 12, .int .i64 0, .slice none 0 0]) (by simp [results, Tryz.results20, go_sem, r_0, r_1, r_2]) rfl ?_
    refine ⟨⟨12, zeroBl⟩, [.int .i64 12, .int .i64 0, .slice none 0 0], rfl, .inr ⟨HX.out, .inr ⟨HPL.out, .inr ⟨HH.out.1 (by simp), .inl ⟨by rw [HD.out]; exact HU.out, rfl⟩⟩⟩⟩, own_bresCode _ 12 (by decide) _ _, ?_⟩
    exact HB.out.trans (stN_below (by omega) [.int .i64 12, .int .i64 0, .slice none 0 0] 0)
  | false =>
  clear T3
  go_wp2_with fail
  refine CC.mono ?_
  rintro e w4 ⟨c4, rfl, o4, b4⟩
  obtain ⟨bo, bc, rfl⟩ := Block_cells o4
  have T4 := HT3.out.call b4
  have r_0 : w4.cell? ⟨w.heap.size + 1, 0, none⟩ = some (.int .i64 0) := T4.b2.cell 0
  have rf_0 : w4.frozen? ⟨w.heap.size + 1, 0, none⟩ = false := T4.b2.frozen 0
  have r_1 : w4.cell? ⟨w.heap.size + 1, 1, none⟩ = some (.int .i64 0) := T4.b2.cell 1
  have rf_1 : w4.frozen? ⟨w.heap.size + 1, 1, none⟩ = false := T4.b2.frozen 1
  have r_2 : w4.cell? ⟨w.heap.size + 1, 2, none⟩ = some (.slice none 0 0) := T4.b2.cell 2
  have rf_2 : w4.frozen? ⟨w.heap.size + 1, 2, none⟩ = false := T4.b2.frozen 2
  have HB4 : Hid (Below w.heap.size w w4) := T4.bel
  have HO4 : Hid (OwnT layBlock w4 w3.heap.size w4.heap.size (D.blocks.2 R) [.int .i64 (D.blocks.2 R).stamp, .slice bo (D.blocks.2 R).bytes.1 bc]) := o4
  have z3 : w.heap.size + 1 < w3.heap.size := HT3.out.b2.lt
  clear T4 o4 b4 CC s0 s1 x9 c0 c2 c3
  go_wp2
  refine bodyPost_ret (v := .agg #[.int .i64 0, .int .i64 (D.blocks.2 R).stamp, .slice bo (D.blocks.2 R).bytes.1 bc]) (by simp [results, Tryz.results20, go_sem, r_0, r_1, r_2]) rfl ?_
  refine ⟨⟨0, D.blocks.2 R⟩, [.int .i64 0, .int .i64 (D.blocks.2 R).stamp, .slice bo (D.blocks.2 R).bytes.1 bc], rfl, .inr ⟨HX.out, .inr ⟨HPL.out, .inr ⟨HH.out.1 (by simp), .inr ⟨by rw [HD.out]; exact HU.out, by rw [HD.out]; rfl⟩⟩⟩⟩, ?_, ?_⟩
  · exact OwnT.finb (own_bres 0 (by decide) HO4.out) (b := w.heap.size + 1) (by omega) (by omega) 0 [.int .i64 0, .int .i64 (D.blocks.2 R).stamp, .slice bo (D.blocks.2 R).bytes.1 bc] _ rfl
  · exact HB4.out.trans (stN_below (by omega) [.int .i64 0, .int .i64 (D.blocks.2 R).stamp, .slice bo (D.blocks.2 R).bytes.1 bc] 0)
set_option maxHeartbeats 16000000 in
set_option maxRecDepth 20000 in
theorem implRead_any (d : WorldD) (g k r : Int) (cs : List Value) (hi : Nat) (w : World) (h : layWorld.rd w hi d cs) (hhi : hi ≤ w.heap.size) (hsz : szWorldD d ≤ 1048576) :
    Calls Tryz.prog 21 #[.agg cs.toArray, .int .i64 g, .int .i64 k, .int .i64 r] w (BResPost (ReadAns d g k r) w) := by
  have CQ := fun w' hb => powered_any d cs hi w' (layWorld.rd_below h (B := w.heap.size) hb hhi)
  have CO := fun w' hb => isOn_any d cs hi g w' (layWorld.rd_below h (B := w.heap.size) hb hhi)
  obtain ⟨ao1, cap1, ao2, cap2, ao3, cap3, rfl, g1, g2, g3, -⟩ := World_rd h
  obtain ⟨_, e2, ⟨h2, _⟩, _⟩ := g2
  cases e2
  obtain ⟨_, _, e1, hm1, hc1⟩ := g1
  cases e1
  have HC1 : Hid (d.groups.1 ≠ 0 → ∃ b off, ao1 = some ⟨b, off, none⟩ ∧ b < hi ∧ ∀ i, i < d.groups.1 → ∃ ce, (layDrive.slice 84).rd w hi (d.groups.2 i) ce ∧ ∀ j, j < (layDrive.slice 84).sz → w.cell? ⟨b, off + (i * (layDrive.slice 84).sz + j), none⟩ = ce[j]?) := hc1
  have HR2 : Hid (RdI w hi (.slice ao2 d.on.1 cap2) d.on.1 d.on.2) := h2
  have HSZ : Hid (szWorldD d ≤ 1048576) := hsz
  have T0 := two_newb w #[.int .i64 (d.shape 0), .int .i64 (d.shape 1), .int .i64 (d.shape 2), .int .i64 (d.shape 3), .int .i64 (d.shape 4), .int .i64 (d.shape 5), .int .i64 (d.shape 6), .int .i64 (d.shape 7), .int .i64 (d.shape 8), .slice ao1 d.groups.1 cap1, .slice ao2 d.on.1 cap2, .slice ao3 d.tapes.1 cap3, .int .i64 d.writes, .int .i64 d.stop, .bool d.down] #[.int .i64 0, .int .i64 0, .slice none 0 0] 34 48
  clear h g3 h2 hc1 hm1 hsz
  go_enter Tryz.func21, Tryz.ntmps21
  go_wp2_with (refine wp_loadBox 34 (.tmp 4) rfl rfl w.heap.size rfl (cs := [.int .i64 (d.shape 0), .int .i64 (d.shape 1), .int .i64 (d.shape 2), .int .i64 (d.shape 3), .int .i64 (d.shape 4), .int .i64 (d.shape 5), .int .i64 (d.shape 6), .int .i64 (d.shape 7), .int .i64 (d.shape 8), .slice ao1 d.groups.1 cap1, .slice ao2 d.on.1 cap2, .slice ao3 d.tapes.1 cap3, .int .i64 d.writes, .int .i64 d.stop, .bool d.down]) T0.b1 Tryz.underlying34 size_W rfl ?_)
  refine (CQ _ T0.bel (Nat.le_trans hhi T0.bel.size) HSZ.out).mono ?_
  rintro e w1 ⟨x, rfl, hx, b1⟩
  have T1 := T0.call b1
  have HT1 : Hid (Two w w1 #[.int .i64 (d.shape 0), .int .i64 (d.shape 1), .int .i64 (d.shape 2), .int .i64 (d.shape 3), .int .i64 (d.shape 4), .int .i64 (d.shape 5), .int .i64 (d.shape 6), .int .i64 (d.shape 7), .int .i64 (d.shape 8), .slice ao1 d.groups.1 cap1, .slice ao2 d.on.1 cap2, .slice ao3 d.tapes.1 cap3, .int .i64 d.writes, .int .i64 d.stop, .bool d.down] #[.int .i64 0, .int .i64 0, .slice none 0 0] 34 48) := T1
  have HX : Hid (AskAns d x) := hx
  have z1 : w.heap.size + 1 < w1.heap.size := T1.b2.lt
  clear T0 b1 CQ hx
  by_cases hx0 : x = 0
  case neg =>
    have hne : (x != 0) = true := by simp [hx0]
    have r_0 : w1.cell? ⟨w.heap.size + 1, 0, none⟩ = some (.int .i64 0) := T1.b2.cell 0
    have rf_0 : w1.frozen? ⟨w.heap.size + 1, 0, none⟩ = false := T1.b2.frozen 0
    have r_1 : w1.cell? ⟨w.heap.size + 1, 1, none⟩ = some (.int .i64 0) := T1.b2.cell 1
    have rf_1 : w1.frozen? ⟨w.heap.size + 1, 1, none⟩ = false := T1.b2.frozen 1
    have r_2 : w1.cell? ⟨w.heap.size + 1, 2, none⟩ = some (.slice none 0 0) := T1.b2.cell 2
    have rf_2 : w1.frozen? ⟨w.heap.size + 1, 2, none⟩ = false := T1.b2.frozen 2
    have HB : Hid (Below w.heap.size w w1) := T1.bel
    clear T1
    go_wp2
    refine bodyPost_ret (v := .agg #[.int .i64 x, .int .i64 0, .slice none 0 0]) (by simp [results, Tryz.results21, go_sem, r_0, r_1, r_2]) rfl ?_
    refine ⟨⟨x, zeroBl⟩, [.int .i64 x, .int .i64 0, .slice none 0 0], rfl, .inl ⟨x, hx0, HX.out, rfl⟩, own_bresCode _ x (ask_small HX.out) _ _, ?_⟩
    exact HB.out.trans (stN_below (by omega) [.int .i64 x, .int .i64 0, .slice none 0 0] 0)
  subst hx0
  have hok := ask_ok HX.out
  have HOK : Hid (OkWorld d) := hok
  have x_0 : w1.cell? ⟨w.heap.size, 0, none⟩ = some (.int .i64 (d.shape 0)) := T1.b1.cell 0
  have x_1 : w1.cell? ⟨w.heap.size, 1, none⟩ = some (.int .i64 (d.shape 1)) := T1.b1.cell 1
  have x_2 : w1.cell? ⟨w.heap.size, 2, none⟩ = some (.int .i64 (d.shape 2)) := T1.b1.cell 2
  have x_3 : w1.cell? ⟨w.heap.size, 3, none⟩ = some (.int .i64 (d.shape 3)) := T1.b1.cell 3
  have x_4 : w1.cell? ⟨w.heap.size, 4, none⟩ = some (.int .i64 (d.shape 4)) := T1.b1.cell 4
  have x_5 : w1.cell? ⟨w.heap.size, 5, none⟩ = some (.int .i64 (d.shape 5)) := T1.b1.cell 5
  have x_6 : w1.cell? ⟨w.heap.size, 6, none⟩ = some (.int .i64 (d.shape 6)) := T1.b1.cell 6
  have x_7 : w1.cell? ⟨w.heap.size, 7, none⟩ = some (.int .i64 (d.shape 7)) := T1.b1.cell 7
  have x_8 : w1.cell? ⟨w.heap.size, 8, none⟩ = some (.int .i64 (d.shape 8)) := T1.b1.cell 8
  have x_10 : w1.cell? ⟨w.heap.size, 10, none⟩ = some (.slice ao2 d.on.1 cap2) := T1.b1.cell 10
  clear T1
  obtain ⟨t1, h1⟩ := exB (DriveP d.shape g k)
  obtain ⟨t2, h2⟩ := exB (InP r 0 (d.shape 4 - 1))
  have CP := fun w' => det_b (isDrive_any d.shape hok.shape g k w') h1
  have CR := fun w' => isRow_b hok.shape h2 w'
  have HP : Hid (PlaceP d.shape g k r ↔ (t1 = true ∧ t2 = true)) := by
    show PlaceP d.shape g k r ↔ _
    rw [h1, h2]
    unfold PlaceP DriveP
    constructor
    · rintro ⟨p, q, r⟩; exact ⟨⟨p, q⟩, r⟩
    · rintro ⟨⟨p, q⟩, r⟩; exact ⟨p, q, r⟩
  unfold shapeV at CP CR
  clear hok h1 h2
  go_wp2_with fail
  refine (CP _).mono ?_
  rintro e w1' ⟨rfl, b1⟩
  have T1 := HT1.out.call b1
  have HT1' : Hid (Two w w1' #[.int .i64 (d.shape 0), .int .i64 (d.shape 1), .int .i64 (d.shape 2), .int .i64 (d.shape 3), .int .i64 (d.shape 4), .int .i64 (d.shape 5), .int .i64 (d.shape 6), .int .i64 (d.shape 7), .int .i64 (d.shape 8), .slice ao1 d.groups.1 cap1, .slice ao2 d.on.1 cap2, .slice ao3 d.tapes.1 cap3, .int .i64 d.writes, .int .i64 d.stop, .bool d.down] #[.int .i64 0, .int .i64 0, .slice none 0 0] 34 48) := T1
  clear b1 CP HT1 x_0 x_1 x_2 x_3 x_4 x_5 x_6 x_7 x_8 x_10
  cases t1 with
  | false =>
    have r_0 : w1'.cell? ⟨w.heap.size + 1, 0, none⟩ = some (.int .i64 0) := T1.b2.cell 0
    have rf_0 : w1'.frozen? ⟨w.heap.size + 1, 0, none⟩ = false := T1.b2.frozen 0
    have r_1 : w1'.cell? ⟨w.heap.size + 1, 1, none⟩ = some (.int .i64 0) := T1.b2.cell 1
    have rf_1 : w1'.frozen? ⟨w.heap.size + 1, 1, none⟩ = false := T1.b2.frozen 1
    have r_2 : w1'.cell? ⟨w.heap.size + 1, 2, none⟩ = some (.slice none 0 0) := T1.b2.cell 2
    have rf_2 : w1'.frozen? ⟨w.heap.size + 1, 2, none⟩ = false := T1.b2.frozen 2
    have HB : Hid (Below w.heap.size w w1') := T1.bel
    clear T1
    go_wp2
    refine bodyPost_ret (v := .agg #[.int .i64 3, .int .i64 0, .slice none 0 0]) (by simp [results, Tryz.results21, go_sem, r_0, r_1, r_2]) rfl ?_
    refine ⟨⟨3, zeroBl⟩, [.int .i64 3, .int .i64 0, .slice none 0 0], rfl, .inr ⟨HX.out, .inl ⟨fun h => by have := HP.out.1 h; simp at this, rfl⟩⟩, own_bresCode _ 3 (by decide) _ _, ?_⟩
    exact HB.out.trans (stN_below (by omega) [.int .i64 3, .int .i64 0, .slice none 0 0] 0)
  | true =>
  have x_0 : w1'.cell? ⟨w.heap.size, 0, none⟩ = some (.int .i64 (d.shape 0)) := T1.b1.cell 0
  have x_1 : w1'.cell? ⟨w.heap.size, 1, none⟩ = some (.int .i64 (d.shape 1)) := T1.b1.cell 1
  have x_2 : w1'.cell? ⟨w.heap.size, 2, none⟩ = some (.int .i64 (d.shape 2)) := T1.b1.cell 2
  have x_3 : w1'.cell? ⟨w.heap.size, 3, none⟩ = some (.int .i64 (d.shape 3)) := T1.b1.cell 3
  have x_4 : w1'.cell? ⟨w.heap.size, 4, none⟩ = some (.int .i64 (d.shape 4)) := T1.b1.cell 4
  have x_5 : w1'.cell? ⟨w.heap.size, 5, none⟩ = some (.int .i64 (d.shape 5)) := T1.b1.cell 5
  have x_6 : w1'.cell? ⟨w.heap.size, 6, none⟩ = some (.int .i64 (d.shape 6)) := T1.b1.cell 6
  have x_7 : w1'.cell? ⟨w.heap.size, 7, none⟩ = some (.int .i64 (d.shape 7)) := T1.b1.cell 7
  have x_8 : w1'.cell? ⟨w.heap.size, 8, none⟩ = some (.int .i64 (d.shape 8)) := T1.b1.cell 8
  clear T1
  go_wp2_with fail
  refine (CR _).mono ?_
  rintro e w2 ⟨rfl, b2⟩
  have T2 := HT1'.out.call b2
  have HT2 : Hid (Two w w2 #[.int .i64 (d.shape 0), .int .i64 (d.shape 1), .int .i64 (d.shape 2), .int .i64 (d.shape 3), .int .i64 (d.shape 4), .int .i64 (d.shape 5), .int .i64 (d.shape 6), .int .i64 (d.shape 7), .int .i64 (d.shape 8), .slice ao1 d.groups.1 cap1, .slice ao2 d.on.1 cap2, .slice ao3 d.tapes.1 cap3, .int .i64 d.writes, .int .i64 d.stop, .bool d.down] #[.int .i64 0, .int .i64 0, .slice none 0 0] 34 48) := T2
  clear b2 CR HT1' x_0 x_1 x_2 x_3 x_4 x_5 x_6 x_7 x_8
  cases t2 with
  | false =>
    have r_0 : w2.cell? ⟨w.heap.size + 1, 0, none⟩ = some (.int .i64 0) := T2.b2.cell 0
    have rf_0 : w2.frozen? ⟨w.heap.size + 1, 0, none⟩ = false := T2.b2.frozen 0
    have r_1 : w2.cell? ⟨w.heap.size + 1, 1, none⟩ = some (.int .i64 0) := T2.b2.cell 1
    have rf_1 : w2.frozen? ⟨w.heap.size + 1, 1, none⟩ = false := T2.b2.frozen 1
    have r_2 : w2.cell? ⟨w.heap.size + 1, 2, none⟩ = some (.slice none 0 0) := T2.b2.cell 2
    have rf_2 : w2.frozen? ⟨w.heap.size + 1, 2, none⟩ = false := T2.b2.frozen 2
    have HB : Hid (Below w.heap.size w w2) := T2.bel
    clear T2
    go_wp2
    refine bodyPost_ret (v := .agg #[.int .i64 3, .int .i64 0, .slice none 0 0]) (by simp [results, Tryz.results21, go_sem, r_0, r_1, r_2]) rfl ?_
    refine ⟨⟨3, zeroBl⟩, [.int .i64 3, .int .i64 0, .slice none 0 0], rfl, .inr ⟨HX.out, .inl ⟨fun h => by have := HP.out.1 h; simp at this, rfl⟩⟩, own_bresCode _ 3 (by decide) _ _, ?_⟩
    exact HB.out.trans (stN_below (by omega) [.int .i64 3, .int .i64 0, .slice none 0 0] 0)
  | true =>
  have hpl := HP.out.2 (by simp)
  clear T2
  go_wp2_with (refine wp_loadBox 34 (.tmp 4) rfl rfl w.heap.size rfl (cs := [.int .i64 (d.shape 0), .int .i64 (d.shape 1), .int .i64 (d.shape 2), .int .i64 (d.shape 3), .int .i64 (d.shape 4), .int .i64 (d.shape 5), .int .i64 (d.shape 6), .int .i64 (d.shape 7), .int .i64 (d.shape 8), .slice ao1 d.groups.1 cap1, .slice ao2 d.on.1 cap2, .slice ao3 d.tapes.1 cap3, .int .i64 d.writes, .int .i64 d.stop, .bool d.down]) HT2.out.b1 Tryz.underlying34 size_W rfl ?_)
  refine (CO _ HT2.out.bel (Nat.le_trans hhi HT2.out.bel.size)).mono ?_
  rintro e w3 ⟨t, rfl, ht, b3⟩
  have T3 := HT2.out.call b3
  have HT3 : Hid (Two w w3 #[.int .i64 (d.shape 0), .int .i64 (d.shape 1), .int .i64 (d.shape 2), .int .i64 (d.shape 3), .int .i64 (d.shape 4), .int .i64 (d.shape 5), .int .i64 (d.shape 6), .int .i64 (d.shape 7), .int .i64 (d.shape 8), .slice ao1 d.groups.1 cap1, .slice ao2 d.on.1 cap2, .slice ao3 d.tapes.1 cap3, .int .i64 d.writes, .int .i64 d.stop, .bool d.down] #[.int .i64 0, .int .i64 0, .slice none 0 0] 34 48) := T3
  have HH : Hid (t = true ↔ HasP d.on.1 d.on.2 g) := ht
  have HPL : Hid (PlaceP d.shape g k r) := hpl
  clear b3 ht HT2 CO
  cases t with
  | false =>
    clear hpl
    have r_0 : w3.cell? ⟨w.heap.size + 1, 0, none⟩ = some (.int .i64 0) := T3.b2.cell 0
    have rf_0 : w3.frozen? ⟨w.heap.size + 1, 0, none⟩ = false := T3.b2.frozen 0
    have r_1 : w3.cell? ⟨w.heap.size + 1, 1, none⟩ = some (.int .i64 0) := T3.b2.cell 1
    have rf_1 : w3.frozen? ⟨w.heap.size + 1, 1, none⟩ = false := T3.b2.frozen 1
    have r_2 : w3.cell? ⟨w.heap.size + 1, 2, none⟩ = some (.slice none 0 0) := T3.b2.cell 2
    have rf_2 : w3.frozen? ⟨w.heap.size + 1, 2, none⟩ = false := T3.b2.frozen 2
    have HB : Hid (Below w.heap.size w w3) := T3.bel
    clear T3
    go_wp2
    refine bodyPost_ret (v := .agg #[.int .i64 8, .int .i64 0, .slice none 0 0]) (by simp [results, Tryz.results21, go_sem, r_0, r_1, r_2]) rfl ?_
    refine ⟨⟨8, zeroBl⟩, [.int .i64 8, .int .i64 0, .slice none 0 0], rfl, .inr ⟨HX.out, .inr ⟨HPL.out, .inl ⟨fun h => by have := HH.out.2 h; simp at this, rfl⟩⟩⟩, own_bresCode _ 8 (by decide) _ _, ?_⟩
    exact HB.out.trans (stN_below (by omega) [.int .i64 8, .int .i64 0, .slice none 0 0] 0)
  | true =>
  obtain ⟨hA, hB, hC⟩ := hpl
  have hf := HOK.out.form.1
  unfold InP at hA hB hC
  obtain ⟨G, rfl⟩ : ∃ G : Nat, g = (G : Int) := ⟨g.toNat, by omega⟩
  obtain ⟨K, rfl⟩ : ∃ K : Nat, k = (K : Int) := ⟨k.toNat, by omega⟩
  obtain ⟨R, rfl⟩ : ∃ R : Nat, r = (R : Int) := ⟨r.toNat, by omega⟩
  have hG : G < d.groups.1 := by have := hf.1; omega
  have hK : K < (d.groups.2 G).1 := by have := (hf.2 G hG).1; omega
  have hD := (hf.2 G hG).2 K hK
  have hR : R < ((d.groups.2 G).2 K).blocks.1 := by have := hD.1; omega
  obtain ⟨b1, off1, he1, hb1, hel1⟩ := HC1.out (by omega)
  subst he1
  obtain ⟨cg, hrg, hcg⟩ := elem_rd (t := 0) hel1 T3.bel hhi hb1 hG
  obtain ⟨ao9, cap9, rfl⟩ := sl_form hrg
  have c0 : w3.cell? ⟨b1, off1 + G, none⟩ = some (.slice ao9 (d.groups.2 G).1 cap9) := by
    have := hcg 0 (by decide)
    have e : off1 + (G * (layDrive.slice 84).sz + 0) = off1 + G := by show off1 + (G * 1 + 0) = off1 + G; omega
    rw [e] at this
    exact this
  obtain ⟨_, _, e9, hm9, hc9⟩ := hrg
  cases e9
  obtain ⟨b9, off9, he9, hb9, hel9⟩ := hc9 (by omega)
  subst he9
  obtain ⟨cd, hrd, hcd⟩ := hel9 K hK
  obtain ⟨ao5, cap5, rfl, g5⟩ := Drive_rd hrd
  obtain ⟨D, hDD⟩ : ∃ x, x = (d.groups.2 G).2 K := ⟨_, rfl⟩
  rw [← hDD] at hcd g5 hR
  have HD : Hid (drvAt d (G : Int) (K : Int) = D) := by show (d.groups.2 (G : Int).toNat).2 (K : Int).toNat = D; rw [hDD]; rfl
  have c2 : w3.cell? ⟨b9, off9 + K * 2, none⟩ = some (.bool D.wiped) := hcd 0 (by decide)
  have c3 : w3.cell? ⟨b9, off9 + K * 2 + 1, none⟩ = some (.slice ao5 D.blocks.1 cap5) := hcd 1 (by decide)
  obtain ⟨_, _, e5, hm5, hc5⟩ := g5
  cases e5
  obtain ⟨b5, off5, he5, hb5, hel5⟩ := hc5 (by omega)
  subst he5
  obtain ⟨cb, hrb, hcb⟩ := hel5 R hR
  have hbz : szBlockD (D.blocks.2 R) ≤ 1048576 := by
    have h1 : szSl (szSl szDriveD) d.groups ≤ 1048576 := by have := HSZ.out; unfold szWorldD at this; omega
    have h2 : szSl szDriveD (d.groups.2 G) ≤ 1048576 := szSl_at h1 hG
    have h3 : szDriveD ((d.groups.2 G).2 K) ≤ 1048576 := szSl_at h2 hK
    rw [← hDD] at h3
    exact szSl_at (s := szBlockD) (p := D.blocks) h3 hR
  have CC := copyBlock_is _ (D.blocks.2 R) hi w3 hrb (Nat.le_trans hhi T3.bel.size) hbz
  obtain ⟨ao0, cap0, rfl, -⟩ := Block_rd hrb
  have s0 : w3.cell? ⟨b5, off5 + R * 2, none⟩ = some (.int .i64 (D.blocks.2 R).stamp) := hcb 0 (by decide)
  have s1 : w3.cell? ⟨b5, off5 + R * 2 + 1, none⟩ = some (.slice ao0 (D.blocks.2 R).bytes.1 cap0) := hcb 1 (by decide)
  have x9 : w3.cell? ⟨w.heap.size, 9, none⟩ = some (.slice (some ⟨b1, off1, none⟩) d.groups.1 cap1) := T3.b1.cell 9
  obtain ⟨u, hu⟩ : ∃ b, b = D.wiped := ⟨_, rfl⟩
  rw [← hu] at c2
  have HU : Hid (D.wiped = u) := hu.symm
  clear hel1 hcg hel9 hcd hrd hel5 hcb hrb hDD hbz hf hD hu hc9 hc5 hm9 hm5
  cases u with
  | true =>
    have r_0 : w3.cell? ⟨w.heap.size + 1, 0, none⟩ = some (.int .i64 0) := T3.b2.cell 0
    have rf_0 : w3.frozen? ⟨w.heap.size + 1, 0, none⟩ = false := T3.b2.frozen 0
    have r_1 : w3.cell? ⟨w.heap.size + 1, 1, none⟩ = some (.int .i64 0) := T3.b2.cell 1
    have rf_1 : w3.frozen? ⟨w.heap.size + 1, 1, none⟩ = false := T3.b2.frozen 1
    have r_2 : w3.cell? ⟨w.heap.size + 1, 2, none⟩ = some (.slice none 0 0) := T3.b2.cell 2
    have rf_2 : w3.frozen? ⟨w.heap.size + 1, 2, none⟩ = false := T3.b2.frozen 2
    have HB : Hid (Below w.heap.size w w3) := T3.bel
    clear T3
    go_wp2
    refine bodyPost_ret (v := .agg #[.int .i64 12, .int .i64 0, .slice none 0 0]) (by simp [results, Tryz.results21, go_sem, r_0, r_1, r_2]) rfl ?_
    refine ⟨⟨12, zeroBl⟩, [.int .i64 12, .int .i64 0, .slice none 0 0], rfl, .inr ⟨HX.out, .inr ⟨HPL.out, .inr ⟨HH.out.1 (by simp), .inl ⟨by rw [HD.out]; exact HU.out, rfl⟩⟩⟩⟩, own_bresCode _ 12 (by decide) _ _, ?_⟩
    exact HB.out.trans (stN_below (by omega) [.int .i64 12, .int .i64 0, .slice none 0 0] 0)
  | false =>
  clear T3
  go_wp2_with fail
  refine CC.mono ?_
  rintro e w4 ⟨c4, rfl, o4, b4⟩
  obtain ⟨bo, bc, rfl⟩ := Block_cells o4
  have T4 := HT3.out.call b4
  have r_0 : w4.cell? ⟨w.heap.size + 1, 0, none⟩ = some (.int .i64 0) := T4.b2.cell 0
  have rf_0 : w4.frozen? ⟨w.heap.size + 1, 0, none⟩ = false := T4.b2.frozen 0
  have r_1 : w4.cell? ⟨w.heap.size + 1, 1, none⟩ = some (.int .i64 0) := T4.b2.cell 1
  have rf_1 : w4.frozen? ⟨w.heap.size + 1, 1, none⟩ = false := T4.b2.frozen 1
  have r_2 : w4.cell? ⟨w.heap.size + 1, 2, none⟩ = some (.slice none 0 0) := T4.b2.cell 2
  have rf_2 : w4.frozen? ⟨w.heap.size + 1, 2, none⟩ = false := T4.b2.frozen 2
  have HB4 : Hid (Below w.heap.size w w4) := T4.bel
  have HO4 : Hid (OwnT layBlock w4 w3.heap.size w4.heap.size (D.blocks.2 R) [.int .i64 (D.blocks.2 R).stamp, .slice bo (D.blocks.2 R).bytes.1 bc]) := o4
  have z3 : w.heap.size + 1 < w3.heap.size := HT3.out.b2.lt
  clear T4 o4 b4 CC s0 s1 x9 c0 c2 c3
  go_wp2
  refine bodyPost_ret (v := .agg #[.int .i64 0, .int .i64 (D.blocks.2 R).stamp, .slice bo (D.blocks.2 R).bytes.1 bc]) (by simp [results, Tryz.results21, go_sem, r_0, r_1, r_2]) rfl ?_
  refine ⟨⟨0, D.blocks.2 R⟩, [.int .i64 0, .int .i64 (D.blocks.2 R).stamp, .slice bo (D.blocks.2 R).bytes.1 bc], rfl, .inr ⟨HX.out, .inr ⟨HPL.out, .inr ⟨HH.out.1 (by simp), .inr ⟨by rw [HD.out]; exact HU.out, by rw [HD.out]; rfl⟩⟩⟩⟩, ?_, ?_⟩
  · exact OwnT.finb (own_bres 0 (by decide) HO4.out) (b := w.heap.size + 1) (by omega) (by omega) 0 [.int .i64 0, .int .i64 (D.blocks.2 R).stamp, .slice bo (D.blocks.2 R).bytes.1 bc] _ rfl
  · exact HB4.out.trans (stN_below (by omega) [.int .i64 0, .int .i64 (D.blocks.2 R).stamp, .slice bo (D.blocks.2 R).bytes.1 bc] 0)
end Go.Proofs.YtbmfndjglndnlaaGreat
