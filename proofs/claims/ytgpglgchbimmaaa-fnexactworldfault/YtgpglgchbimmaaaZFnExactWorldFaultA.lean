/- Walks: the measure of blocks and drives. -/
import Derived.Test.YtgpglgchbimmaaaShapeV
import Derived.Test.YtgpglgchbimmaaaWColA
import Derived.Test.YtgpglgchbimmaaaCells
import Derived.Deep.RegionLaw
namespace Go.Proofs.Ytgpglgchbimmaaa
open Go.RowKit F256
set_option linter.unusedVariables false
set_option linter.unusedSimpArgs false

set_option maxHeartbeats 2000000 in
theorem toShape_any (s : Nat → Int) (w : World) :
    Calls Try.prog 12 #[shapeV s] w fun e w' => e = .returned (shapeV s) ∧ Below w.heap.size w w' := by
  unfold shapeV
  obtain ⟨a0, h0⟩ : ∃ a, a = s 0 := ⟨_, rfl⟩
  obtain ⟨a1, h1⟩ : ∃ a, a = s 1 := ⟨_, rfl⟩
  obtain ⟨a2, h2⟩ : ∃ a, a = s 2 := ⟨_, rfl⟩
  obtain ⟨a3, h3⟩ : ∃ a, a = s 3 := ⟨_, rfl⟩
  obtain ⟨a4, h4⟩ : ∃ a, a = s 4 := ⟨_, rfl⟩
  obtain ⟨a5, h5⟩ : ∃ a, a = s 5 := ⟨_, rfl⟩
  obtain ⟨a6, h6⟩ : ∃ a, a = s 6 := ⟨_, rfl⟩
  obtain ⟨a7, h7⟩ : ∃ a, a = s 7 := ⟨_, rfl⟩
  obtain ⟨a8, h8⟩ : ∃ a, a = s 8 := ⟨_, rfl⟩
  rw [← h0, ← h1, ← h2, ← h3, ← h4, ← h5, ← h6, ← h7, ← h8]
  clear h0 h1 h2 h3 h4 h5 h6 h7 h8
  go_enter Try.func12, Try.ntmps12
  go_wp2
  refine bodyPost_ret (v := .agg #[.int .i64 a0, .int .i64 a1, .int .i64 a2, .int .i64 a3, .int .i64 a4, .int .i64 a5, .int .i64 a6, .int .i64 a7, .int .i64 a8]) (by simp [results, Try.results12, go_sem]) rfl ⟨rfl, ?_⟩
  exact (((Below.refl _ _).alloc (Nat.le_refl _) _).alloc (by simp) _).alloc (by simp <;> omega) _

/-- a shape that has no fault -/
def OkShape (s : Nat → Int) : Prop := Shp3 (s 0) (s 1) ∧ Shp (s 2) (s 3) ∧ (1 ≤ s 4 ∧ s 4 ≤ 6) ∧ (1 ≤ s 5 ∧ s 5 ≤ 6) ∧ (1 ≤ s 6 ∧ s 6 ≤ 4) ∧ (1 ≤ s 7 ∧ s 7 ≤ 6) ∧ (0 ≤ s 8 ∧ s 8 ≤ 400)
def ShFAns (s : Nat → Int) (x : Int) : Prop := (x = 3 ∧ ¬ OkShape s) ∨ (x = 0 ∧ OkShape s)
theorem ShFAns.one {s : Nat → Int} {x y : Int} (h : ShFAns s x) (k : ShFAns s y) : x = y := by
  rcases h with ⟨rfl, h⟩ | ⟨rfl, h⟩ <;> rcases k with ⟨rfl, k⟩ | ⟨rfl, k⟩ <;> first | rfl | exact absurd h k | exact absurd k h
theorem box9 {w : World} {b : Nat} {t : TypeId} {a0 a1 a2 a3 a4 a5 a6 a7 a8 : Value} (h : Box w b #[a0, a1, a2, a3, a4, a5, a6, a7, a8] t) :
    w.cell? ⟨b, 0, none⟩ = some a0 ∧ w.cell? ⟨b, 1, none⟩ = some a1 ∧ w.cell? ⟨b, 2, none⟩ = some a2 ∧ w.cell? ⟨b, 3, none⟩ = some a3 ∧ w.cell? ⟨b, 4, none⟩ = some a4 ∧ w.cell? ⟨b, 5, none⟩ = some a5 ∧ w.cell? ⟨b, 6, none⟩ = some a6 ∧ w.cell? ⟨b, 7, none⟩ = some a7 ∧ w.cell? ⟨b, 8, none⟩ = some a8 :=
  ⟨h.cell 0, h.cell 1, h.cell 2, h.cell 3, h.cell 4, h.cell 5, h.cell 6, h.cell 7, h.cell 8⟩

set_option maxHeartbeats 4000000 in
theorem specShape_any (s : Nat → Int) (w : World) :
    Calls Try.prog 19 #[shapeV s] w fun e w' => ∃ x, e = .returned (.int .i64 x) ∧ ShFAns s x ∧ Below w.heap.size w w' := by
  unfold shapeV
  have HOK : Hid (OkShape s ↔ OkShape s) := Iff.rfl
  unfold OkShape at HOK
  obtain ⟨a0, h0⟩ : ∃ a, a = s 0 := ⟨_, rfl⟩
  obtain ⟨a1, h1⟩ : ∃ a, a = s 1 := ⟨_, rfl⟩
  obtain ⟨a2, h2⟩ : ∃ a, a = s 2 := ⟨_, rfl⟩
  obtain ⟨a3, h3⟩ : ∃ a, a = s 3 := ⟨_, rfl⟩
  obtain ⟨a4, h4⟩ : ∃ a, a = s 4 := ⟨_, rfl⟩
  obtain ⟨a5, h5⟩ : ∃ a, a = s 5 := ⟨_, rfl⟩
  obtain ⟨a6, h6⟩ : ∃ a, a = s 6 := ⟨_, rfl⟩
  obtain ⟨a7, h7⟩ : ∃ a, a = s 7 := ⟨_, rfl⟩
  obtain ⟨a8, h8⟩ : ∃ a, a = s 8 := ⟨_, rfl⟩
  have HIFF : Hid (OkShape s ↔ (Shp3 a0 a1 ∧ Shp a2 a3 ∧ (1 ≤ a4 ∧ a4 ≤ 6) ∧ (1 ≤ a5 ∧ a5 ≤ 6) ∧ (1 ≤ a6 ∧ a6 ≤ 4) ∧ (1 ≤ a7 ∧ a7 ≤ 6) ∧ (0 ≤ a8 ∧ a8 ≤ 400))) := by
    show OkShape s ↔ _
    rw [h0, h1, h2, h3, h4, h5, h6, h7, h8]
    exact Iff.rfl
  rw [← h0, ← h1, ← h2, ← h3, ← h4, ← h5, ← h6, ← h7, ← h8]
  clear h0 h1 h2 h3 h4 h5 h6 h7 h8 HOK
  go_enter Try.func19, Try.ntmps19
  go_wp2_with fail
  refine (l3Shape_any a0 a1 _).mono ?_
  rintro e w1 ⟨b1, rfl, hb1, b1'⟩
  have X1 : Box w1 w.heap.size #[.int .i64 a0, .int .i64 a1, .int .i64 a2, .int .i64 a3, .int .i64 a4, .int .i64 a5, .int .i64 a6, .int .i64 a7, .int .i64 a8] 31 := (box_new w _ _).below b1' (by simp)
  have B1 : Below w.heap.size w w1 := bnew b1'
  have H1 : Hid (b1 = true ↔ Shp3 a0 a1) := hb1
  have z1 := X1.lt
  obtain ⟨x0, x1, x2, x3, x4, x5, x6, x7, x8⟩ := box9 X1
  clear hb1 b1'
  cases b1 with
  | false =>
    have HNO : Hid (¬ OkShape s) := fun h => by have := H1.out.mpr (HIFF.out.mp h).1; cases this
    clear H1
    go_wp2
    go_ret
    exact ⟨3, rfl, .inl ⟨rfl, HNO.out⟩, B1⟩
  | true =>
    have HS1 : Hid (Shp3 a0 a1) := H1.out.mp rfl
    clear H1
    go_wp2_with fail
    refine (l2Shape_any a2 a3 _).mono ?_
    rintro e w2 ⟨b2, rfl, hb2, b2'⟩
    have X2 := X1.below b2' z1
    have B2 : Below w.heap.size w w2 := B1.trans (b2'.mono B1.size)
    have H2 : Hid (b2 = true ↔ Shp a2 a3) := hb2
    clear x0 x1 x2 x3 x4 x5 x6 x7 x8
    obtain ⟨x0, x1, x2, x3, x4, x5, x6, x7, x8⟩ := box9 X2
    clear hb2 b2' X1 B1
    cases b2 with
    | false =>
      have HNO : Hid (¬ OkShape s) := fun h => by have := H2.out.mpr (HIFF.out.mp h).2.1; cases this
      clear H2
      go_wp2
      go_ret
      exact ⟨3, rfl, .inl ⟨rfl, HNO.out⟩, B2⟩
    | true =>
      have HS2 : Hid (Shp a2 a3) := H2.out.mp rfl
      clear H2
      by_cases c4 : 1 ≤ a4 ∧ a4 ≤ 6
      · by_cases c5 : 1 ≤ a5 ∧ a5 ≤ 6
        · by_cases c6 : 1 ≤ a6 ∧ a6 ≤ 4
          · by_cases c7 : 1 ≤ a7 ∧ a7 ≤ 6
            · by_cases c8 : 0 ≤ a8 ∧ a8 ≤ 400
              · have HY : Hid (OkShape s) := HIFF.out.mpr ⟨HS1.out, HS2.out, c4, c5, c6, c7, c8⟩
                go_wp2_with fail
                refine (l1In_yes a4 1 6 c4.1 c4.2 _).mono ?_
                rintro e w3 ⟨rfl, hw⟩
                obtain rfl := hw.symm
                go_wp2_with fail
                refine (l1In_yes a5 1 6 c5.1 c5.2 _).mono ?_
                rintro e w3 ⟨rfl, hw⟩
                obtain rfl := hw.symm
                go_wp2_with fail
                refine (l1In_yes a6 1 4 c6.1 c6.2 _).mono ?_
                rintro e w3 ⟨rfl, hw⟩
                obtain rfl := hw.symm
                go_wp2_with fail
                refine (l1In_yes a7 1 6 c7.1 c7.2 _).mono ?_
                rintro e w3 ⟨rfl, hw⟩
                obtain rfl := hw.symm
                go_wp2_with fail
                refine (l1In_yes a8 0 400 c8.1 c8.2 _).mono ?_
                rintro e w3 ⟨rfl, hw⟩
                obtain rfl := hw.symm
                go_wp2
                go_ret
                exact ⟨0, rfl, .inr ⟨rfl, HY.out⟩, B2⟩
              · have HN : Hid (¬ OkShape s) := fun h => c8 (HIFF.out.mp h).2.2.2.2.2.2
                have c8' : a8 < 0 ∨ 400 < a8 := by omega
                clear c8
                go_wp2_with fail
                refine (l1In_yes a4 1 6 c4.1 c4.2 _).mono ?_
                rintro e w3 ⟨rfl, hw⟩
                obtain rfl := hw.symm
                go_wp2_with fail
                refine (l1In_yes a5 1 6 c5.1 c5.2 _).mono ?_
                rintro e w3 ⟨rfl, hw⟩
                obtain rfl := hw.symm
                go_wp2_with fail
                refine (l1In_yes a6 1 4 c6.1 c6.2 _).mono ?_
                rintro e w3 ⟨rfl, hw⟩
                obtain rfl := hw.symm
                go_wp2_with fail
                refine (l1In_yes a7 1 6 c7.1 c7.2 _).mono ?_
                rintro e w3 ⟨rfl, hw⟩
                obtain rfl := hw.symm
                go_wp2_with fail
                refine (l1In_no a8 0 400 c8' _).mono ?_
                rintro e w3 ⟨rfl, hw⟩
                obtain rfl := hw.symm
                go_wp2
                go_ret
                exact ⟨3, rfl, .inl ⟨rfl, HN.out⟩, B2⟩
            · have HN : Hid (¬ OkShape s) := fun h => c7 (HIFF.out.mp h).2.2.2.2.2.1
              have c7' : a7 < 1 ∨ 6 < a7 := by omega
              clear c7
              go_wp2_with fail
              refine (l1In_yes a4 1 6 c4.1 c4.2 _).mono ?_
              rintro e w3 ⟨rfl, hw⟩
              obtain rfl := hw.symm
              go_wp2_with fail
              refine (l1In_yes a5 1 6 c5.1 c5.2 _).mono ?_
              rintro e w3 ⟨rfl, hw⟩
              obtain rfl := hw.symm
              go_wp2_with fail
              refine (l1In_yes a6 1 4 c6.1 c6.2 _).mono ?_
              rintro e w3 ⟨rfl, hw⟩
              obtain rfl := hw.symm
              go_wp2_with fail
              refine (l1In_no a7 1 6 c7' _).mono ?_
              rintro e w3 ⟨rfl, hw⟩
              obtain rfl := hw.symm
              go_wp2
              go_ret
              exact ⟨3, rfl, .inl ⟨rfl, HN.out⟩, B2⟩
          · have HN : Hid (¬ OkShape s) := fun h => c6 (HIFF.out.mp h).2.2.2.2.1
            have c6' : a6 < 1 ∨ 4 < a6 := by omega
            clear c6
            go_wp2_with fail
            refine (l1In_yes a4 1 6 c4.1 c4.2 _).mono ?_
            rintro e w3 ⟨rfl, hw⟩
            obtain rfl := hw.symm
            go_wp2_with fail
            refine (l1In_yes a5 1 6 c5.1 c5.2 _).mono ?_
            rintro e w3 ⟨rfl, hw⟩
            obtain rfl := hw.symm
            go_wp2_with fail
            refine (l1In_no a6 1 4 c6' _).mono ?_
            rintro e w3 ⟨rfl, hw⟩
            obtain rfl := hw.symm
            go_wp2
            go_ret
            exact ⟨3, rfl, .inl ⟨rfl, HN.out⟩, B2⟩
        · have HN : Hid (¬ OkShape s) := fun h => c5 (HIFF.out.mp h).2.2.2.1
          have c5' : a5 < 1 ∨ 6 < a5 := by omega
          clear c5
          go_wp2_with fail
          refine (l1In_yes a4 1 6 c4.1 c4.2 _).mono ?_
          rintro e w3 ⟨rfl, hw⟩
          obtain rfl := hw.symm
          go_wp2_with fail
          refine (l1In_no a5 1 6 c5' _).mono ?_
          rintro e w3 ⟨rfl, hw⟩
          obtain rfl := hw.symm
          go_wp2
          go_ret
          exact ⟨3, rfl, .inl ⟨rfl, HN.out⟩, B2⟩
      · have HN : Hid (¬ OkShape s) := fun h => c4 (HIFF.out.mp h).2.2.1
        have c4' : a4 < 1 ∨ 6 < a4 := by omega
        clear c4
        go_wp2_with fail
        refine (l1In_no a4 1 6 c4' _).mono ?_
        rintro e w3 ⟨rfl, hw⟩
        obtain rfl := hw.symm
        go_wp2
        go_ret
        exact ⟨3, rfl, .inl ⟨rfl, HN.out⟩, B2⟩
end Go.Proofs.Ytgpglgchbimmaaa

namespace Go.Proofs.Ytgpglgchbimmaaa
open Go.RowKit F256
set_option linter.unusedVariables false
set_option linter.unusedSimpArgs false
set_option maxHeartbeats 8000000 in
set_option maxRecDepth 20000 in
theorem toBlock_is : ToV layBlock szBlockD 95 := fun cs d hi w r hhi hn => by
  obtain ⟨ao1, cap1, rfl, h1, k0⟩ := Block_rd r
  clear r
  unfold szBlockD at hn
  have R1 : Hid (layBytes.rd w hi d.bytes [.slice ao1 d.bytes.1 cap1]) := h1
  clear h1
  have Q0 : Hid ((-9223372036854775808 ≤ d.stamp ∧ d.stamp ≤ 9223372036854775807)) := k0
  clear k0
  go_enter Try.func95, Try.ntmps95
  go_wp2_with fail
  have T0 := three_newb w #[.int .i64 d.stamp, .slice ao1 d.bytes.1 cap1] #[.int .i64 0, .slice none 0 0] #[.int .i64 d.stamp, .slice none 0 0] 119 88 88
  refine (toBytes_is _ d.bytes hi _ (layBytes.rd_below R1.out T0.bel hhi) (Nat.le_trans hhi T0.bel.size) (by omega)).mono ?_
  rintro e w1 ⟨v1, rfl, o1, b1⟩
  have L1 := T0.lt
  obtain ⟨bo1, bcap1, hv⟩ := bytes_formT o1
  obtain rfl := one_eq hv
  clear hv
  have T1 : Three w w1 #[.int .i64 d.stamp, .slice ao1 d.bytes.1 cap1] #[.int .i64 0, .slice none 0 0] #[.int .i64 d.stamp, .slice none 0 0] 119 88 88 := T0.call b1
  have O1 : Hid (OwnT layBytes w1 (w.heap.size + 1 + 1 + 1) (w1.heap.size) d.bytes [.slice bo1 d.bytes.1 bcap1]) := o1.weaken (by simp <;> omega) (Nat.le_refl _)
  clear o1
  have LT1 : w.heap.size + 1 + 1 + 1 ≤ w1.heap.size := T1.lt
  have y1_0 : w1.cell? ⟨w.heap.size + 1 + 1, 0, none⟩ = some (.int .i64 d.stamp) := T1.b3.cell 0
  have y1_1 : w1.cell? ⟨w.heap.size + 1 + 1, 1, none⟩ = some (.slice none 0 0) := T1.b3.cell 1
  have yf1_1 : w1.frozen? ⟨w.heap.size + 1 + 1, 1, none⟩ = false := T1.b3.frozen 1
  have z1_0 : w1.cell? ⟨w.heap.size + 1, 0, none⟩ = some (.int .i64 0) := T1.b2.cell 0
  have zf1_0 : w1.frozen? ⟨w.heap.size + 1, 0, none⟩ = false := T1.b2.frozen 0
  have z1_1 : w1.cell? ⟨w.heap.size + 1, 1, none⟩ = some (.slice none 0 0) := T1.b2.cell 1
  have zf1_1 : w1.frozen? ⟨w.heap.size + 1, 1, none⟩ = false := T1.b2.frozen 1
  have Bq : Hid (Below w.heap.size w w1) := T1.bel
  clear T1 b1
  go_wp2
  refine bodyPost_ret (v := .agg #[.int .i64 d.stamp, .slice bo1 d.bytes.1 bcap1]) (by simp [results, Try.results95, go_sem, y1_0, z1_0, y1_1, z1_1]) rfl ?_
  have F : OwnT layBlock w1 (w.heap.size + 1 + 1 + 1) w1.heap.size d ([.int .i64 d.stamp] ++ [.slice bo1 d.bytes.1 bcap1]) := OwnT.conv (OwnT.pre (A := layI) (a := d.stamp) (c := [.int .i64 d.stamp]) ⟨rfl, Q0.out, rfl⟩ (O1.out))
  exact ⟨[.int .i64 d.stamp, .slice bo1 d.bytes.1 bcap1], rfl, OwnT.fin F 1 0 [.slice bo1 d.bytes.1 bcap1] [.int .i64 d.stamp, .slice bo1 d.bytes.1 bcap1] _ rfl, below_fin Bq.out 1 0 [.slice bo1 d.bytes.1 bcap1] [.int .i64 d.stamp, .slice bo1 d.bytes.1 bcap1] _ rfl⟩
theorem info_BlockS : (Try.prog.info? 88).map (fun i => (i.zero.map (·.cells), i.size, i.bytes)) = some (some #[.int .i64 0, .slice none 0 0], 2, 32) := by kernel_rfl
set_option maxHeartbeats 4000000 in
theorem toBlockS_is : ToS (layBlock.slice 88) (szSl szBlockD) 91 := fun v d hi w h hhi hn => by
  obtain ⟨n, x⟩ := d
  obtain ⟨ao, cap, hv, hm, hc⟩ := h
  cases hv
  have hn1 := szSl_n hn
  have hn2 : ∀ i, i < n → szBlockD (x i) ≤ 1048576 := fun i hi => szSl_at hn hi
  simp only at hn1 hm hc
  clear hn
  go_enter Try.func91, Try.ntmps91
  go_wp2_with (at_make; refine wp_makeT layBlock [.int .i64 0, .slice none 0 0] _ 88 32 (by decide) rfl Try.underlying84 info_BlockS x (fun _ => []) _ rfl _ _ rfl _ _ n rfl rfl rfl rfl (by omega) (by omega) ?_; intro w1 sp1 hb1)
  go_loopw [4] (fun i wr => ∃ k : Nat, k ≤ n ∧ i = .int .i64 k ∧ ∃ ce Ls, SlP layBlock 88 wr w.heap.size w.heap.size n n k x ce Ls ∧ Below w.heap.size w wr) (fun i _ => n - (intOf i).toNat)
  case atStart => exact ⟨0, Nat.zero_le _, rfl, _, _, sp1, hb1⟩
  case round =>
    clear sp1 hb1
    obtain ⟨k, hk, rfl, ce, Ls, sp, hb⟩ := hrel
    by_cases hlt : k < n
    · obtain ⟨b, off, rfl, hblt, hel⟩ := hc (by omega)
      obtain ⟨ck, hrk, hcell⟩ := elem_rd (t := 0) hel hb hhi hblt hlt
      obtain ⟨ao1, cap1, rfl, -⟩ := Block_rd hrk
      have c0 : wr.cell? ⟨b, off + k * 2, none⟩ = some (.int .i64 (x k).stamp) := hcell 0 (by decide)
      have c1 : wr.cell? ⟨b, off + k * 2 + 1, none⟩ = some (.slice ao1 (x k).bytes.1 cap1) := hcell 1 (by decide)
      clear hc hel hcell
      go_wp2_with fail
      refine (toBlock_is _ (x k) hi wr hrk (Nat.le_trans hhi hb.size) (hn2 k hlt)).mono ?_
      rintro e w2 ⟨cs', rfl, o2, hb2⟩
      obtain ⟨bao1, bcap1, rfl⟩ := Block_cells o2
      obtain ⟨z0, s0⟩ := sp.some hb2 hlt (show 0 < layBlock.sz by decide)
      have s0 : w2.cell? ⟨w.heap.size, k * 2, none⟩ = some z0 := s0
      have sf0 := (sp.below hb2).frozen (k * 2)
      obtain ⟨z1, s1⟩ := sp.some hb2 hlt (show 1 < layBlock.sz by decide)
      have s1 : w2.cell? ⟨w.heap.size, k * 2 + 1, none⟩ = some z1 := s1
      have sf1 := (sp.below hb2).frozen (k * 2 + 1)
      have N := sp.next hb2 hlt o2 hb.size
      have N2 : Below w.heap.size w (stN w2 w.heap.size (k * layBlock.sz) [.int .i64 (x k).stamp, .slice bao1 (x k).bytes.1 bcap1]) := (hb.trans (hb2.mono hb.size)).trans (stN_below (Nat.le_refl _) _ _)
      clear o2 hb2 sp hb
      go_wp2_with fail
      go_roundw
      case rel =>
        obtain ⟨ce', Ls', N⟩ := N
        exact ⟨k + 1, by omega, by go_num, ce', Ls', N, N2⟩
      case measure => simp [intOf]; omega
    · obtain rfl : k = n := by omega
      go_wp2
      go_ret
      exact ⟨_, rfl, sp.done (Nat.le_refl _), hb⟩
set_option maxHeartbeats 8000000 in
set_option maxRecDepth 20000 in
theorem toDrive_is : ToV layDrive szDriveD 80 := fun cs d hi w r hhi hn => by
  obtain ⟨ao1, cap1, rfl, h1⟩ := Drive_rd r
  clear r
  unfold szDriveD at hn
  have R1 : Hid ((layBlock.slice 88).rd w hi d.blocks [.slice ao1 d.blocks.1 cap1]) := h1
  clear h1
  go_enter Try.func80, Try.ntmps80
  go_wp2_with fail
  have T0 := three_newb w #[.bool d.wiped, .slice ao1 d.blocks.1 cap1] #[.bool false, .slice none 0 0] #[.bool d.wiped, .slice none 0 0] 103 86 86
  refine (toBlockS_is _ d.blocks hi _ ((layBlock.slice 88).rd_below R1.out T0.bel hhi) (Nat.le_trans hhi T0.bel.size) (by omega)).mono ?_
  rintro e w1 ⟨v1, rfl, o1, b1⟩
  have L1 := T0.lt
  obtain ⟨bo1, bcap1, hv⟩ := sl_formT o1
  obtain rfl := one_eq hv
  clear hv
  have T1 : Three w w1 #[.bool d.wiped, .slice ao1 d.blocks.1 cap1] #[.bool false, .slice none 0 0] #[.bool d.wiped, .slice none 0 0] 103 86 86 := T0.call b1
  have O1 : Hid (OwnT (layBlock.slice 88) w1 (w.heap.size + 1 + 1 + 1) (w1.heap.size) d.blocks [.slice bo1 d.blocks.1 bcap1]) := o1.weaken (by simp <;> omega) (Nat.le_refl _)
  clear o1
  have LT1 : w.heap.size + 1 + 1 + 1 ≤ w1.heap.size := T1.lt
  have y1_0 : w1.cell? ⟨w.heap.size + 1 + 1, 0, none⟩ = some (.bool d.wiped) := T1.b3.cell 0
  have y1_1 : w1.cell? ⟨w.heap.size + 1 + 1, 1, none⟩ = some (.slice none 0 0) := T1.b3.cell 1
  have yf1_1 : w1.frozen? ⟨w.heap.size + 1 + 1, 1, none⟩ = false := T1.b3.frozen 1
  have z1_0 : w1.cell? ⟨w.heap.size + 1, 0, none⟩ = some (.bool false) := T1.b2.cell 0
  have zf1_0 : w1.frozen? ⟨w.heap.size + 1, 0, none⟩ = false := T1.b2.frozen 0
  have z1_1 : w1.cell? ⟨w.heap.size + 1, 1, none⟩ = some (.slice none 0 0) := T1.b2.cell 1
  have zf1_1 : w1.frozen? ⟨w.heap.size + 1, 1, none⟩ = false := T1.b2.frozen 1
  have Bq : Hid (Below w.heap.size w w1) := T1.bel
  clear T1 b1
  go_wp2
  refine bodyPost_ret (v := .agg #[.bool d.wiped, .slice bo1 d.blocks.1 bcap1]) (by simp [results, Try.results80, go_sem, y1_0, z1_0, y1_1, z1_1]) rfl ?_
  have F : OwnT layDrive w1 (w.heap.size + 1 + 1 + 1) w1.heap.size d ([.bool d.wiped] ++ [.slice bo1 d.blocks.1 bcap1]) := OwnT.conv (OwnT.pre (A := layB) (a := d.wiped) (c := [.bool d.wiped]) ⟨rfl, trivial, rfl⟩ (O1.out))
  exact ⟨[.bool d.wiped, .slice bo1 d.blocks.1 bcap1], rfl, OwnT.fin F 1 0 [.slice bo1 d.blocks.1 bcap1] [.bool d.wiped, .slice bo1 d.blocks.1 bcap1] _ rfl, below_fin Bq.out 1 0 [.slice bo1 d.blocks.1 bcap1] [.bool d.wiped, .slice bo1 d.blocks.1 bcap1] _ rfl⟩
theorem info_DriveS : (Try.prog.info? 86).map (fun i => (i.zero.map (·.cells), i.size, i.bytes)) = some (some #[.bool false, .slice none 0 0], 2, 32) := by kernel_rfl
set_option maxHeartbeats 4000000 in
theorem toDriveS_is : ToS (layDrive.slice 86) (szSl szDriveD) 58 := fun v d hi w h hhi hn => by
  obtain ⟨n, x⟩ := d
  obtain ⟨ao, cap, hv, hm, hc⟩ := h
  cases hv
  have hn1 := szSl_n hn
  have hn2 : ∀ i, i < n → szDriveD (x i) ≤ 1048576 := fun i hi => szSl_at hn hi
  simp only at hn1 hm hc
  clear hn
  go_enter Try.func58, Try.ntmps58
  go_wp2_with (at_make; refine wp_makeT layDrive [.bool false, .slice none 0 0] _ 86 32 (by decide) rfl Try.underlying83 info_DriveS x (fun _ => []) _ rfl _ _ rfl _ _ n rfl rfl rfl rfl (by omega) (by omega) ?_; intro w1 sp1 hb1)
  go_loopw [4] (fun i wr => ∃ k : Nat, k ≤ n ∧ i = .int .i64 k ∧ ∃ ce Ls, SlP layDrive 86 wr w.heap.size w.heap.size n n k x ce Ls ∧ Below w.heap.size w wr) (fun i _ => n - (intOf i).toNat)
  case atStart => exact ⟨0, Nat.zero_le _, rfl, _, _, sp1, hb1⟩
  case round =>
    clear sp1 hb1
    obtain ⟨k, hk, rfl, ce, Ls, sp, hb⟩ := hrel
    by_cases hlt : k < n
    · obtain ⟨b, off, rfl, hblt, hel⟩ := hc (by omega)
      obtain ⟨ck, hrk, hcell⟩ := elem_rd (t := 0) hel hb hhi hblt hlt
      obtain ⟨ao1, cap1, rfl, -⟩ := Drive_rd hrk
      have c0 : wr.cell? ⟨b, off + k * 2, none⟩ = some (.bool (x k).wiped) := hcell 0 (by decide)
      have c1 : wr.cell? ⟨b, off + k * 2 + 1, none⟩ = some (.slice ao1 (x k).blocks.1 cap1) := hcell 1 (by decide)
      clear hc hel hcell
      go_wp2_with fail
      refine (toDrive_is _ (x k) hi wr hrk (Nat.le_trans hhi hb.size) (hn2 k hlt)).mono ?_
      rintro e w2 ⟨cs', rfl, o2, hb2⟩
      obtain ⟨bao1, bcap1, rfl⟩ := Drive_cells o2
      obtain ⟨z0, s0⟩ := sp.some hb2 hlt (show 0 < layDrive.sz by decide)
      have s0 : w2.cell? ⟨w.heap.size, k * 2, none⟩ = some z0 := s0
      have sf0 := (sp.below hb2).frozen (k * 2)
      obtain ⟨z1, s1⟩ := sp.some hb2 hlt (show 1 < layDrive.sz by decide)
      have s1 : w2.cell? ⟨w.heap.size, k * 2 + 1, none⟩ = some z1 := s1
      have sf1 := (sp.below hb2).frozen (k * 2 + 1)
      have N := sp.next hb2 hlt o2 hb.size
      have N2 : Below w.heap.size w (stN w2 w.heap.size (k * layDrive.sz) [.bool (x k).wiped, .slice bao1 (x k).blocks.1 bcap1]) := (hb.trans (hb2.mono hb.size)).trans (stN_below (Nat.le_refl _) _ _)
      clear o2 hb2 sp hb
      go_wp2_with fail
      go_roundw
      case rel =>
        obtain ⟨ce', Ls', N⟩ := N
        exact ⟨k + 1, by omega, by go_num, ce', Ls', N, N2⟩
      case measure => simp [intOf]; omega
    · obtain rfl : k = n := by omega
      go_wp2
      go_ret
      exact ⟨_, rfl, sp.done (Nat.le_refl _), hb⟩
theorem info_DriveSS : (Try.prog.info? 83).map (fun i => (i.zero.map (·.cells), i.size, i.bytes)) = some (some #[.slice none 0 0], 1, 24) := by kernel_rfl
set_option maxHeartbeats 4000000 in
theorem toDriveSS_is : ToS ((layDrive.slice 86).slice 83) (szSl (szSl szDriveD)) 24 := fun v d hi w h hhi hn => by
  obtain ⟨n, x⟩ := d
  obtain ⟨ao, cap, hv, hm, hc⟩ := h
  cases hv
  have hn1 := szSl_n hn
  have hn2 : ∀ i, i < n → (szSl szDriveD) (x i) ≤ 1048576 := fun i hi => szSl_at hn hi
  simp only at hn1 hm hc
  clear hn
  go_enter Try.func24, Try.ntmps24
  go_wp2_with (at_make; refine wp_makeT (layDrive.slice 86) [.slice none 0 0] _ 83 24 (by decide) rfl Try.underlying32 info_DriveSS x (fun _ => []) _ rfl _ _ rfl _ _ n rfl rfl rfl rfl (by omega) (by omega) ?_; intro w1 sp1 hb1)
  go_loopw [4] (fun i wr => ∃ k : Nat, k ≤ n ∧ i = .int .i64 k ∧ ∃ ce Ls, SlP (layDrive.slice 86) 83 wr w.heap.size w.heap.size n n k x ce Ls ∧ Below w.heap.size w wr) (fun i _ => n - (intOf i).toNat)
  case atStart => exact ⟨0, Nat.zero_le _, rfl, _, _, sp1, hb1⟩
  case round =>
    clear sp1 hb1
    obtain ⟨k, hk, rfl, ce, Ls, sp, hb⟩ := hrel
    by_cases hlt : k < n
    · obtain ⟨b, off, rfl, hblt, hel⟩ := hc (by omega)
      obtain ⟨ck, hrk, hcell⟩ := elem_rd (t := 0) hel hb hhi hblt hlt
      obtain ⟨ao9, cap9, rfl⟩ := sl_form hrk
      have c0 : wr.cell? ⟨b, off + k, none⟩ = some (.slice ao9 (x k).1 cap9) := by
        have h := hcell 0 (show 0 < 1 by decide)
        rw [show (layDrive.slice 86).sz = 1 from rfl, Nat.mul_one, Nat.add_zero] at h
        exact h
      clear hc hel hcell
      go_wp2_with fail
      refine (toDriveS_is _ (x k) hi wr hrk (Nat.le_trans hhi hb.size) (hn2 k hlt)).mono ?_
      rintro e w2 ⟨v', rfl, o2, hb2⟩
      obtain ⟨bao9, bcap9, hv'⟩ := sl_formT o2
      obtain rfl := one_eq hv'
      clear hv'
      obtain ⟨z0, s0⟩ := sp.some hb2 hlt (show 0 < (layDrive.slice 86).sz by decide)
      rw [show (layDrive.slice 86).sz = 1 from rfl, Nat.mul_one, Nat.add_zero] at s0
      have sf0 := (sp.below hb2).frozen k
      have N := sp.next hb2 hlt o2 hb.size
      have N2 : Below w.heap.size w (stN w2 w.heap.size (k * (layDrive.slice 86).sz) [.slice bao9 (x k).1 bcap9]) := (hb.trans (hb2.mono hb.size)).trans (stN_below (Nat.le_refl _) _ _)
      rw [show (layDrive.slice 86).sz = 1 from rfl, Nat.mul_one] at N N2
      clear o2 hb2 sp hb
      go_wp2_with fail
      go_roundw
      case rel =>
        obtain ⟨ce', Ls', N⟩ := N
        exact ⟨k + 1, by omega, by go_num, ce', Ls', N, N2⟩
      case measure => simp [intOf]; omega
    · obtain rfl : k = n := by omega
      go_wp2
      go_ret
      exact ⟨_, rfl, sp.done (Nat.le_refl _), hb⟩
end Go.Proofs.Ytgpglgchbimmaaa

namespace Go.Proofs.Ytgpglgchbimmaaa
open Go.RowKit F256
set_option linter.unusedVariables false
set_option linter.unusedSimpArgs false
set_option maxHeartbeats 8000000 in
set_option maxRecDepth 20000 in
theorem toRec_is : ToV layRec szRecD 13 := fun cs d hi w r hhi hn => by
  obtain ⟨ao6, cap6, ao7, cap7, ao8, cap8, rfl, h6, h7, h8, k0, k1, k2, k3, k4, k5⟩ := Rec_rd r
  clear r
  unfold szRecD at hn
  have R6 : Hid (layInts.rd w hi d.rows [.slice ao6 d.rows.1 cap6]) := h6
  have R7 : Hid (layBytes.rd w hi d.data [.slice ao7 d.data.1 cap7]) := h7
  have R8 : Hid (layBytes.rd w hi d.delta [.slice ao8 d.delta.1 cap8]) := h8
  clear h6 h7 h8
  have Q0 : Hid ((-9223372036854775808 ≤ d.kind ∧ d.kind ≤ 9223372036854775807)) := k0
  have Q1 : Hid ((-9223372036854775808 ≤ d.seq ∧ d.seq ≤ 9223372036854775807)) := k1
  have Q2 : Hid (d.name.size ≤ maxLen) := k2
  have Q3 : Hid ((-9223372036854775808 ≤ d.length ∧ d.length ≤ 9223372036854775807)) := k3
  have Q4 : Hid ((-9223372036854775808 ≤ d.group ∧ d.group ≤ 9223372036854775807)) := k4
  have Q5 : Hid ((-9223372036854775808 ≤ d.row ∧ d.row ≤ 9223372036854775807)) := k5
  clear k0 k1 k2 k3 k4 k5
  go_enter Try.func13, Try.ntmps13
  go_wp2_with fail
  have T0 := three_newb w #[.int .i64 d.kind, .int .i64 d.seq, .string d.name, .int .i64 d.length, .int .i64 d.group, .int .i64 d.row, .slice ao6 d.rows.1 cap6, .slice ao7 d.data.1 cap7, .slice ao8 d.delta.1 cap8] #[.int .i64 0, .int .i64 0, .string ByteArray.empty, .int .i64 0, .int .i64 0, .int .i64 0, .slice none 0 0, .slice none 0 0, .slice none 0 0] #[.int .i64 d.kind, .int .i64 d.seq, .string d.name, .int .i64 d.length, .int .i64 d.group, .int .i64 d.row, .slice none 0 0, .slice none 0 0, .slice none 0 0] 41 45 45
  refine (toInts_is _ d.rows hi _ (layInts.rd_below R6.out T0.bel hhi) (Nat.le_trans hhi T0.bel.size) (by omega)).mono ?_
  rintro e w1 ⟨v1, rfl, o1, b1⟩
  have L1 := T0.lt
  obtain ⟨bo6, bcap6, hv⟩ := ints_formT o1
  obtain rfl := one_eq hv
  clear hv
  have T1 : Three w w1 #[.int .i64 d.kind, .int .i64 d.seq, .string d.name, .int .i64 d.length, .int .i64 d.group, .int .i64 d.row, .slice ao6 d.rows.1 cap6, .slice ao7 d.data.1 cap7, .slice ao8 d.delta.1 cap8] #[.int .i64 0, .int .i64 0, .string ByteArray.empty, .int .i64 0, .int .i64 0, .int .i64 0, .slice none 0 0, .slice none 0 0, .slice none 0 0] #[.int .i64 d.kind, .int .i64 d.seq, .string d.name, .int .i64 d.length, .int .i64 d.group, .int .i64 d.row, .slice none 0 0, .slice none 0 0, .slice none 0 0] 41 45 45 := T0.call b1
  have O6 : Hid (OwnT layInts w1 (w.heap.size + 1 + 1 + 1) (w1.heap.size) d.rows [.slice bo6 d.rows.1 bcap6]) := o1.weaken (by simp <;> omega) (Nat.le_refl _)
  clear o1
  have LT1 : w.heap.size + 1 + 1 + 1 ≤ w1.heap.size := T1.lt
  have x1_7 : w1.cell? ⟨w.heap.size, 7, none⟩ = some (.slice ao7 d.data.1 cap7) := T1.b1.cell 7
  have y1_6 : w1.cell? ⟨w.heap.size + 1 + 1, 6, none⟩ = some (.slice none 0 0) := T1.b3.cell 6
  have yf1_6 : w1.frozen? ⟨w.heap.size + 1 + 1, 6, none⟩ = false := T1.b3.frozen 6
  have V1 : Three w (w1.setCell ⟨w.heap.size + 1 + 1, 6, none⟩ (.slice bo6 d.rows.1 bcap6)) #[.int .i64 d.kind, .int .i64 d.seq, .string d.name, .int .i64 d.length, .int .i64 d.group, .int .i64 d.row, .slice ao6 d.rows.1 cap6, .slice ao7 d.data.1 cap7, .slice ao8 d.delta.1 cap8] #[.int .i64 0, .int .i64 0, .string ByteArray.empty, .int .i64 0, .int .i64 0, .int .i64 0, .slice none 0 0, .slice none 0 0, .slice none 0 0] #[.int .i64 d.kind, .int .i64 d.seq, .string d.name, .int .i64 d.length, .int .i64 d.group, .int .i64 d.row, .slice bo6 d.rows.1 bcap6, .slice none 0 0, .slice none 0 0] 41 45 45 := T1.st3 6 [.slice bo6 d.rows.1 bcap6] (c3' := [.int .i64 d.kind, .int .i64 d.seq, .string d.name, .int .i64 d.length, .int .i64 d.group, .int .i64 d.row, .slice bo6 d.rows.1 bcap6, .slice none 0 0, .slice none 0 0]) rfl
  clear T1 b1
  go_wp2_with fail
  refine (toBytes_is _ d.data hi _ (layBytes.rd_below R7.out V1.bel hhi) (Nat.le_trans hhi V1.bel.size) (by omega)).mono ?_
  rintro e w2 ⟨v2, rfl, o2, b2⟩
  have L2 := V1.lt
  obtain ⟨bo7, bcap7, hv⟩ := bytes_formT o2
  obtain rfl := one_eq hv
  clear hv
  have T2 : Three w w2 #[.int .i64 d.kind, .int .i64 d.seq, .string d.name, .int .i64 d.length, .int .i64 d.group, .int .i64 d.row, .slice ao6 d.rows.1 cap6, .slice ao7 d.data.1 cap7, .slice ao8 d.delta.1 cap8] #[.int .i64 0, .int .i64 0, .string ByteArray.empty, .int .i64 0, .int .i64 0, .int .i64 0, .slice none 0 0, .slice none 0 0, .slice none 0 0] #[.int .i64 d.kind, .int .i64 d.seq, .string d.name, .int .i64 d.length, .int .i64 d.group, .int .i64 d.row, .slice bo6 d.rows.1 bcap6, .slice none 0 0, .slice none 0 0] 41 45 45 := V1.call b2
  have O6x : OwnT layInts w2 (w.heap.size + 1 + 1 + 1) (w1.heap.size) d.rows [.slice bo6 d.rows.1 bcap6] := ((O6.out).set (show w.heap.size + 1 + 1 < _ by omega)).call b2
  clear O6
  have O6 : Hid (OwnT layInts w2 (w.heap.size + 1 + 1 + 1) (w1.heap.size) d.rows [.slice bo6 d.rows.1 bcap6]) := O6x
  clear O6x
  have O7 : Hid (OwnT layBytes w2 (w1.heap.size) (w2.heap.size) d.data [.slice bo7 d.data.1 bcap7]) := o2.weaken (by simp <;> omega) (Nat.le_refl _)
  clear o2
  have LT2 : w.heap.size + 1 + 1 + 1 ≤ w2.heap.size := T2.lt
  have S2 : w1.heap.size ≤ w2.heap.size := by
    have := b2.size
    simpa using this
  have x2_8 : w2.cell? ⟨w.heap.size, 8, none⟩ = some (.slice ao8 d.delta.1 cap8) := T2.b1.cell 8
  have y2_7 : w2.cell? ⟨w.heap.size + 1 + 1, 7, none⟩ = some (.slice none 0 0) := T2.b3.cell 7
  have yf2_7 : w2.frozen? ⟨w.heap.size + 1 + 1, 7, none⟩ = false := T2.b3.frozen 7
  have V2 : Three w (w2.setCell ⟨w.heap.size + 1 + 1, 7, none⟩ (.slice bo7 d.data.1 bcap7)) #[.int .i64 d.kind, .int .i64 d.seq, .string d.name, .int .i64 d.length, .int .i64 d.group, .int .i64 d.row, .slice ao6 d.rows.1 cap6, .slice ao7 d.data.1 cap7, .slice ao8 d.delta.1 cap8] #[.int .i64 0, .int .i64 0, .string ByteArray.empty, .int .i64 0, .int .i64 0, .int .i64 0, .slice none 0 0, .slice none 0 0, .slice none 0 0] #[.int .i64 d.kind, .int .i64 d.seq, .string d.name, .int .i64 d.length, .int .i64 d.group, .int .i64 d.row, .slice bo6 d.rows.1 bcap6, .slice bo7 d.data.1 bcap7, .slice none 0 0] 41 45 45 := T2.st3 7 [.slice bo7 d.data.1 bcap7] (c3' := [.int .i64 d.kind, .int .i64 d.seq, .string d.name, .int .i64 d.length, .int .i64 d.group, .int .i64 d.row, .slice bo6 d.rows.1 bcap6, .slice bo7 d.data.1 bcap7, .slice none 0 0]) rfl
  clear T2 b2
  go_wp2_with fail
  refine (toBytes_is _ d.delta hi _ (layBytes.rd_below R8.out V2.bel hhi) (Nat.le_trans hhi V2.bel.size) (by omega)).mono ?_
  rintro e w3 ⟨v3, rfl, o3, b3⟩
  have L3 := V2.lt
  obtain ⟨bo8, bcap8, hv⟩ := bytes_formT o3
  obtain rfl := one_eq hv
  clear hv
  have T3 : Three w w3 #[.int .i64 d.kind, .int .i64 d.seq, .string d.name, .int .i64 d.length, .int .i64 d.group, .int .i64 d.row, .slice ao6 d.rows.1 cap6, .slice ao7 d.data.1 cap7, .slice ao8 d.delta.1 cap8] #[.int .i64 0, .int .i64 0, .string ByteArray.empty, .int .i64 0, .int .i64 0, .int .i64 0, .slice none 0 0, .slice none 0 0, .slice none 0 0] #[.int .i64 d.kind, .int .i64 d.seq, .string d.name, .int .i64 d.length, .int .i64 d.group, .int .i64 d.row, .slice bo6 d.rows.1 bcap6, .slice bo7 d.data.1 bcap7, .slice none 0 0] 41 45 45 := V2.call b3
  have O6x : OwnT layInts w3 (w.heap.size + 1 + 1 + 1) (w1.heap.size) d.rows [.slice bo6 d.rows.1 bcap6] := ((O6.out).set (show w.heap.size + 1 + 1 < _ by omega)).call b3
  clear O6
  have O6 : Hid (OwnT layInts w3 (w.heap.size + 1 + 1 + 1) (w1.heap.size) d.rows [.slice bo6 d.rows.1 bcap6]) := O6x
  clear O6x
  have O7x : OwnT layBytes w3 (w1.heap.size) (w2.heap.size) d.data [.slice bo7 d.data.1 bcap7] := ((O7.out).set (show w.heap.size + 1 + 1 < _ by omega)).call b3
  clear O7
  have O7 : Hid (OwnT layBytes w3 (w1.heap.size) (w2.heap.size) d.data [.slice bo7 d.data.1 bcap7]) := O7x
  clear O7x
  have O8 : Hid (OwnT layBytes w3 (w2.heap.size) (w3.heap.size) d.delta [.slice bo8 d.delta.1 bcap8]) := o3.weaken (by simp <;> omega) (Nat.le_refl _)
  clear o3
  have LT3 : w.heap.size + 1 + 1 + 1 ≤ w3.heap.size := T3.lt
  have S3 : w2.heap.size ≤ w3.heap.size := by
    have := b3.size
    simpa using this
  have y3_0 : w3.cell? ⟨w.heap.size + 1 + 1, 0, none⟩ = some (.int .i64 d.kind) := T3.b3.cell 0
  have y3_1 : w3.cell? ⟨w.heap.size + 1 + 1, 1, none⟩ = some (.int .i64 d.seq) := T3.b3.cell 1
  have y3_2 : w3.cell? ⟨w.heap.size + 1 + 1, 2, none⟩ = some (.string d.name) := T3.b3.cell 2
  have y3_3 : w3.cell? ⟨w.heap.size + 1 + 1, 3, none⟩ = some (.int .i64 d.length) := T3.b3.cell 3
  have y3_4 : w3.cell? ⟨w.heap.size + 1 + 1, 4, none⟩ = some (.int .i64 d.group) := T3.b3.cell 4
  have y3_5 : w3.cell? ⟨w.heap.size + 1 + 1, 5, none⟩ = some (.int .i64 d.row) := T3.b3.cell 5
  have y3_6 : w3.cell? ⟨w.heap.size + 1 + 1, 6, none⟩ = some (.slice bo6 d.rows.1 bcap6) := T3.b3.cell 6
  have y3_7 : w3.cell? ⟨w.heap.size + 1 + 1, 7, none⟩ = some (.slice bo7 d.data.1 bcap7) := T3.b3.cell 7
  have y3_8 : w3.cell? ⟨w.heap.size + 1 + 1, 8, none⟩ = some (.slice none 0 0) := T3.b3.cell 8
  have yf3_8 : w3.frozen? ⟨w.heap.size + 1 + 1, 8, none⟩ = false := T3.b3.frozen 8
  have z3_0 : w3.cell? ⟨w.heap.size + 1, 0, none⟩ = some (.int .i64 0) := T3.b2.cell 0
  have zf3_0 : w3.frozen? ⟨w.heap.size + 1, 0, none⟩ = false := T3.b2.frozen 0
  have z3_1 : w3.cell? ⟨w.heap.size + 1, 1, none⟩ = some (.int .i64 0) := T3.b2.cell 1
  have zf3_1 : w3.frozen? ⟨w.heap.size + 1, 1, none⟩ = false := T3.b2.frozen 1
  have z3_2 : w3.cell? ⟨w.heap.size + 1, 2, none⟩ = some (.string ByteArray.empty) := T3.b2.cell 2
  have zf3_2 : w3.frozen? ⟨w.heap.size + 1, 2, none⟩ = false := T3.b2.frozen 2
  have z3_3 : w3.cell? ⟨w.heap.size + 1, 3, none⟩ = some (.int .i64 0) := T3.b2.cell 3
  have zf3_3 : w3.frozen? ⟨w.heap.size + 1, 3, none⟩ = false := T3.b2.frozen 3
  have z3_4 : w3.cell? ⟨w.heap.size + 1, 4, none⟩ = some (.int .i64 0) := T3.b2.cell 4
  have zf3_4 : w3.frozen? ⟨w.heap.size + 1, 4, none⟩ = false := T3.b2.frozen 4
  have z3_5 : w3.cell? ⟨w.heap.size + 1, 5, none⟩ = some (.int .i64 0) := T3.b2.cell 5
  have zf3_5 : w3.frozen? ⟨w.heap.size + 1, 5, none⟩ = false := T3.b2.frozen 5
  have z3_6 : w3.cell? ⟨w.heap.size + 1, 6, none⟩ = some (.slice none 0 0) := T3.b2.cell 6
  have zf3_6 : w3.frozen? ⟨w.heap.size + 1, 6, none⟩ = false := T3.b2.frozen 6
  have z3_7 : w3.cell? ⟨w.heap.size + 1, 7, none⟩ = some (.slice none 0 0) := T3.b2.cell 7
  have zf3_7 : w3.frozen? ⟨w.heap.size + 1, 7, none⟩ = false := T3.b2.frozen 7
  have z3_8 : w3.cell? ⟨w.heap.size + 1, 8, none⟩ = some (.slice none 0 0) := T3.b2.cell 8
  have zf3_8 : w3.frozen? ⟨w.heap.size + 1, 8, none⟩ = false := T3.b2.frozen 8
  have Bq : Hid (Below w.heap.size w w3) := T3.bel
  clear T3 b3
  go_wp2
  refine bodyPost_ret (v := .agg #[.int .i64 d.kind, .int .i64 d.seq, .string d.name, .int .i64 d.length, .int .i64 d.group, .int .i64 d.row, .slice bo6 d.rows.1 bcap6, .slice bo7 d.data.1 bcap7, .slice bo8 d.delta.1 bcap8]) (by simp [results, Try.results13, go_sem, y3_0, z3_0, y3_1, z3_1, y3_2, z3_2, y3_3, z3_3, y3_4, z3_4, y3_5, z3_5, y3_6, z3_6, y3_7, z3_7, y3_8, z3_8]) rfl ?_
  have F : OwnT layRec w3 (w.heap.size + 1 + 1 + 1) w3.heap.size d ([.int .i64 d.kind] ++ ([.int .i64 d.seq] ++ ([.string d.name] ++ ([.int .i64 d.length] ++ ([.int .i64 d.group] ++ ([.int .i64 d.row] ++ ([.slice bo6 d.rows.1 bcap6] ++ ([.slice bo7 d.data.1 bcap7] ++ [.slice bo8 d.delta.1 bcap8])))))))) := OwnT.conv (OwnT.pre (A := layI) (a := d.kind) (c := [.int .i64 d.kind]) ⟨rfl, Q0.out, rfl⟩ (OwnT.pre (A := layI) (a := d.seq) (c := [.int .i64 d.seq]) ⟨rfl, Q1.out, rfl⟩ (OwnT.pre (A := layS) (a := d.name) (c := [.string d.name]) ⟨rfl, Q2.out, rfl⟩ (OwnT.pre (A := layI) (a := d.length) (c := [.int .i64 d.length]) ⟨rfl, Q3.out, rfl⟩ (OwnT.pre (A := layI) (a := d.group) (c := [.int .i64 d.group]) ⟨rfl, Q4.out, rfl⟩ (OwnT.pre (A := layI) (a := d.row) (c := [.int .i64 d.row]) ⟨rfl, Q5.out, rfl⟩ (OwnT.two O6.out (OwnT.two O7.out (O8.out) (by omega) (by omega) (by omega)) (by omega) (by omega) (by omega))))))))
  exact ⟨[.int .i64 d.kind, .int .i64 d.seq, .string d.name, .int .i64 d.length, .int .i64 d.group, .int .i64 d.row, .slice bo6 d.rows.1 bcap6, .slice bo7 d.data.1 bcap7, .slice bo8 d.delta.1 bcap8], rfl, OwnT.fin F 8 0 [.slice bo8 d.delta.1 bcap8] [.int .i64 d.kind, .int .i64 d.seq, .string d.name, .int .i64 d.length, .int .i64 d.group, .int .i64 d.row, .slice bo6 d.rows.1 bcap6, .slice bo7 d.data.1 bcap7, .slice bo8 d.delta.1 bcap8] _ rfl, below_fin Bq.out 8 0 [.slice bo8 d.delta.1 bcap8] [.int .i64 d.kind, .int .i64 d.seq, .string d.name, .int .i64 d.length, .int .i64 d.group, .int .i64 d.row, .slice bo6 d.rows.1 bcap6, .slice bo7 d.data.1 bcap7, .slice bo8 d.delta.1 bcap8] _ rfl⟩
theorem info_RecS : (Try.prog.info? 45).map (fun i => (i.zero.map (·.cells), i.size, i.bytes)) = some (some #[.int .i64 0, .int .i64 0, .string ByteArray.empty, .int .i64 0, .int .i64 0, .int .i64 0, .slice none 0 0, .slice none 0 0, .slice none 0 0], 9, 128) := by kernel_rfl
set_option maxHeartbeats 4000000 in
theorem toRecS_is : ToS (layRec.slice 45) (szSl szRecD) 81 := fun v d hi w h hhi hn => by
  obtain ⟨n, x⟩ := d
  obtain ⟨ao, cap, hv, hm, hc⟩ := h
  cases hv
  have hn1 := szSl_n hn
  have hn2 : ∀ i, i < n → szRecD (x i) ≤ 1048576 := fun i hi => szSl_at hn hi
  simp only at hn1 hm hc
  clear hn
  go_enter Try.func81, Try.ntmps81
  go_wp2_with (at_make; refine wp_makeT layRec [.int .i64 0, .int .i64 0, .string ByteArray.empty, .int .i64 0, .int .i64 0, .int .i64 0, .slice none 0 0, .slice none 0 0, .slice none 0 0] _ 45 128 (by decide) rfl Try.underlying55 info_RecS x (fun _ => []) _ rfl _ _ rfl _ _ n rfl rfl rfl rfl (by omega) (by omega) ?_; intro w1 sp1 hb1)
  go_loopw [4] (fun i wr => ∃ k : Nat, k ≤ n ∧ i = .int .i64 k ∧ ∃ ce Ls, SlP layRec 45 wr w.heap.size w.heap.size n n k x ce Ls ∧ Below w.heap.size w wr) (fun i _ => n - (intOf i).toNat)
  case atStart => exact ⟨0, Nat.zero_le _, rfl, _, _, sp1, hb1⟩
  case round =>
    clear sp1 hb1
    obtain ⟨k, hk, rfl, ce, Ls, sp, hb⟩ := hrel
    by_cases hlt : k < n
    · obtain ⟨b, off, rfl, hblt, hel⟩ := hc (by omega)
      obtain ⟨ck, hrk, hcell⟩ := elem_rd (t := 0) hel hb hhi hblt hlt
      obtain ⟨ao6, cap6, ao7, cap7, ao8, cap8, rfl, -⟩ := Rec_rd hrk
      have c0 : wr.cell? ⟨b, off + k * 9, none⟩ = some (.int .i64 (x k).kind) := hcell 0 (by decide)
      have c1 : wr.cell? ⟨b, off + k * 9 + 1, none⟩ = some (.int .i64 (x k).seq) := hcell 1 (by decide)
      have c2 : wr.cell? ⟨b, off + k * 9 + 2, none⟩ = some (.string (x k).name) := hcell 2 (by decide)
      have c3 : wr.cell? ⟨b, off + k * 9 + 3, none⟩ = some (.int .i64 (x k).length) := hcell 3 (by decide)
      have c4 : wr.cell? ⟨b, off + k * 9 + 4, none⟩ = some (.int .i64 (x k).group) := hcell 4 (by decide)
      have c5 : wr.cell? ⟨b, off + k * 9 + 5, none⟩ = some (.int .i64 (x k).row) := hcell 5 (by decide)
      have c6 : wr.cell? ⟨b, off + k * 9 + 6, none⟩ = some (.slice ao6 (x k).rows.1 cap6) := hcell 6 (by decide)
      have c7 : wr.cell? ⟨b, off + k * 9 + 7, none⟩ = some (.slice ao7 (x k).data.1 cap7) := hcell 7 (by decide)
      have c8 : wr.cell? ⟨b, off + k * 9 + 8, none⟩ = some (.slice ao8 (x k).delta.1 cap8) := hcell 8 (by decide)
      clear hc hel hcell
      go_wp2_with fail
      refine (toRec_is _ (x k) hi wr hrk (Nat.le_trans hhi hb.size) (hn2 k hlt)).mono ?_
      rintro e w2 ⟨cs', rfl, o2, hb2⟩
      obtain ⟨bao6, bcap6, bao7, bcap7, bao8, bcap8, rfl⟩ := Rec_cells o2
      obtain ⟨z0, s0⟩ := sp.some hb2 hlt (show 0 < layRec.sz by decide)
      have s0 : w2.cell? ⟨w.heap.size, k * 9, none⟩ = some z0 := s0
      have sf0 := (sp.below hb2).frozen (k * 9)
      obtain ⟨z1, s1⟩ := sp.some hb2 hlt (show 1 < layRec.sz by decide)
      have s1 : w2.cell? ⟨w.heap.size, k * 9 + 1, none⟩ = some z1 := s1
      have sf1 := (sp.below hb2).frozen (k * 9 + 1)
      obtain ⟨z2, s2⟩ := sp.some hb2 hlt (show 2 < layRec.sz by decide)
      have s2 : w2.cell? ⟨w.heap.size, k * 9 + 2, none⟩ = some z2 := s2
      have sf2 := (sp.below hb2).frozen (k * 9 + 2)
      obtain ⟨z3, s3⟩ := sp.some hb2 hlt (show 3 < layRec.sz by decide)
      have s3 : w2.cell? ⟨w.heap.size, k * 9 + 3, none⟩ = some z3 := s3
      have sf3 := (sp.below hb2).frozen (k * 9 + 3)
      obtain ⟨z4, s4⟩ := sp.some hb2 hlt (show 4 < layRec.sz by decide)
      have s4 : w2.cell? ⟨w.heap.size, k * 9 + 4, none⟩ = some z4 := s4
      have sf4 := (sp.below hb2).frozen (k * 9 + 4)
      obtain ⟨z5, s5⟩ := sp.some hb2 hlt (show 5 < layRec.sz by decide)
      have s5 : w2.cell? ⟨w.heap.size, k * 9 + 5, none⟩ = some z5 := s5
      have sf5 := (sp.below hb2).frozen (k * 9 + 5)
      obtain ⟨z6, s6⟩ := sp.some hb2 hlt (show 6 < layRec.sz by decide)
      have s6 : w2.cell? ⟨w.heap.size, k * 9 + 6, none⟩ = some z6 := s6
      have sf6 := (sp.below hb2).frozen (k * 9 + 6)
      obtain ⟨z7, s7⟩ := sp.some hb2 hlt (show 7 < layRec.sz by decide)
      have s7 : w2.cell? ⟨w.heap.size, k * 9 + 7, none⟩ = some z7 := s7
      have sf7 := (sp.below hb2).frozen (k * 9 + 7)
      obtain ⟨z8, s8⟩ := sp.some hb2 hlt (show 8 < layRec.sz by decide)
      have s8 : w2.cell? ⟨w.heap.size, k * 9 + 8, none⟩ = some z8 := s8
      have sf8 := (sp.below hb2).frozen (k * 9 + 8)
      have N := sp.next hb2 hlt o2 hb.size
      have N2 : Below w.heap.size w (stN w2 w.heap.size (k * layRec.sz) [.int .i64 (x k).kind, .int .i64 (x k).seq, .string (x k).name, .int .i64 (x k).length, .int .i64 (x k).group, .int .i64 (x k).row, .slice bao6 (x k).rows.1 bcap6, .slice bao7 (x k).data.1 bcap7, .slice bao8 (x k).delta.1 bcap8]) := (hb.trans (hb2.mono hb.size)).trans (stN_below (Nat.le_refl _) _ _)
      clear o2 hb2 sp hb
      go_wp2_with fail
      go_roundw
      case rel =>
        obtain ⟨ce', Ls', N⟩ := N
        exact ⟨k + 1, by omega, by go_num, ce', Ls', N, N2⟩
      case measure => simp [intOf]; omega
    · obtain rfl : k = n := by omega
      go_wp2
      go_ret
      exact ⟨_, rfl, sp.done (Nat.le_refl _), hb⟩
set_option maxHeartbeats 8000000 in
set_option maxRecDepth 20000 in
theorem toTape_is : ToV layTape szTapeD 59 := fun cs d hi w r hhi hn => by
  obtain ⟨ao1, cap1, rfl, h1⟩ := Tape_rd r
  clear r
  unfold szTapeD at hn
  have R1 : Hid ((layRec.slice 45).rd w hi d.recs [.slice ao1 d.recs.1 cap1]) := h1
  clear h1
  go_enter Try.func59, Try.ntmps59
  go_wp2_with fail
  have T0 := three_newb w #[.bool d.wiped, .slice ao1 d.recs.1 cap1] #[.bool false, .slice none 0 0] #[.bool d.wiped, .slice none 0 0] 81 57 57
  refine (toRecS_is _ d.recs hi _ ((layRec.slice 45).rd_below R1.out T0.bel hhi) (Nat.le_trans hhi T0.bel.size) (by omega)).mono ?_
  rintro e w1 ⟨v1, rfl, o1, b1⟩
  have L1 := T0.lt
  obtain ⟨bo1, bcap1, hv⟩ := sl_formT o1
  obtain rfl := one_eq hv
  clear hv
  have T1 : Three w w1 #[.bool d.wiped, .slice ao1 d.recs.1 cap1] #[.bool false, .slice none 0 0] #[.bool d.wiped, .slice none 0 0] 81 57 57 := T0.call b1
  have O1 : Hid (OwnT (layRec.slice 45) w1 (w.heap.size + 1 + 1 + 1) (w1.heap.size) d.recs [.slice bo1 d.recs.1 bcap1]) := o1.weaken (by simp <;> omega) (Nat.le_refl _)
  clear o1
  have LT1 : w.heap.size + 1 + 1 + 1 ≤ w1.heap.size := T1.lt
  have y1_0 : w1.cell? ⟨w.heap.size + 1 + 1, 0, none⟩ = some (.bool d.wiped) := T1.b3.cell 0
  have y1_1 : w1.cell? ⟨w.heap.size + 1 + 1, 1, none⟩ = some (.slice none 0 0) := T1.b3.cell 1
  have yf1_1 : w1.frozen? ⟨w.heap.size + 1 + 1, 1, none⟩ = false := T1.b3.frozen 1
  have z1_0 : w1.cell? ⟨w.heap.size + 1, 0, none⟩ = some (.bool false) := T1.b2.cell 0
  have zf1_0 : w1.frozen? ⟨w.heap.size + 1, 0, none⟩ = false := T1.b2.frozen 0
  have z1_1 : w1.cell? ⟨w.heap.size + 1, 1, none⟩ = some (.slice none 0 0) := T1.b2.cell 1
  have zf1_1 : w1.frozen? ⟨w.heap.size + 1, 1, none⟩ = false := T1.b2.frozen 1
  have Bq : Hid (Below w.heap.size w w1) := T1.bel
  clear T1 b1
  go_wp2
  refine bodyPost_ret (v := .agg #[.bool d.wiped, .slice bo1 d.recs.1 bcap1]) (by simp [results, Try.results59, go_sem, y1_0, z1_0, y1_1, z1_1]) rfl ?_
  have F : OwnT layTape w1 (w.heap.size + 1 + 1 + 1) w1.heap.size d ([.bool d.wiped] ++ [.slice bo1 d.recs.1 bcap1]) := OwnT.conv (OwnT.pre (A := layB) (a := d.wiped) (c := [.bool d.wiped]) ⟨rfl, trivial, rfl⟩ (O1.out))
  exact ⟨[.bool d.wiped, .slice bo1 d.recs.1 bcap1], rfl, OwnT.fin F 1 0 [.slice bo1 d.recs.1 bcap1] [.bool d.wiped, .slice bo1 d.recs.1 bcap1] _ rfl, below_fin Bq.out 1 0 [.slice bo1 d.recs.1 bcap1] [.bool d.wiped, .slice bo1 d.recs.1 bcap1] _ rfl⟩
theorem info_TapeS : (Try.prog.info? 57).map (fun i => (i.zero.map (·.cells), i.size, i.bytes)) = some (some #[.bool false, .slice none 0 0], 2, 32) := by kernel_rfl
set_option maxHeartbeats 4000000 in
theorem toTapeS_is : ToS (layTape.slice 57) (szSl szTapeD) 26 := fun v d hi w h hhi hn => by
  obtain ⟨n, x⟩ := d
  obtain ⟨ao, cap, hv, hm, hc⟩ := h
  cases hv
  have hn1 := szSl_n hn
  have hn2 : ∀ i, i < n → szTapeD (x i) ≤ 1048576 := fun i hi => szSl_at hn hi
  simp only at hn1 hm hc
  clear hn
  go_enter Try.func26, Try.ntmps26
  go_wp2_with (at_make; refine wp_makeT layTape [.bool false, .slice none 0 0] _ 57 32 (by decide) rfl Try.underlying33 info_TapeS x (fun _ => []) _ rfl _ _ rfl _ _ n rfl rfl rfl rfl (by omega) (by omega) ?_; intro w1 sp1 hb1)
  go_loopw [4] (fun i wr => ∃ k : Nat, k ≤ n ∧ i = .int .i64 k ∧ ∃ ce Ls, SlP layTape 57 wr w.heap.size w.heap.size n n k x ce Ls ∧ Below w.heap.size w wr) (fun i _ => n - (intOf i).toNat)
  case atStart => exact ⟨0, Nat.zero_le _, rfl, _, _, sp1, hb1⟩
  case round =>
    clear sp1 hb1
    obtain ⟨k, hk, rfl, ce, Ls, sp, hb⟩ := hrel
    by_cases hlt : k < n
    · obtain ⟨b, off, rfl, hblt, hel⟩ := hc (by omega)
      obtain ⟨ck, hrk, hcell⟩ := elem_rd (t := 0) hel hb hhi hblt hlt
      obtain ⟨ao1, cap1, rfl, -⟩ := Tape_rd hrk
      have c0 : wr.cell? ⟨b, off + k * 2, none⟩ = some (.bool (x k).wiped) := hcell 0 (by decide)
      have c1 : wr.cell? ⟨b, off + k * 2 + 1, none⟩ = some (.slice ao1 (x k).recs.1 cap1) := hcell 1 (by decide)
      clear hc hel hcell
      go_wp2_with fail
      refine (toTape_is _ (x k) hi wr hrk (Nat.le_trans hhi hb.size) (hn2 k hlt)).mono ?_
      rintro e w2 ⟨cs', rfl, o2, hb2⟩
      obtain ⟨bao1, bcap1, rfl⟩ := Tape_cells o2
      obtain ⟨z0, s0⟩ := sp.some hb2 hlt (show 0 < layTape.sz by decide)
      have s0 : w2.cell? ⟨w.heap.size, k * 2, none⟩ = some z0 := s0
      have sf0 := (sp.below hb2).frozen (k * 2)
      obtain ⟨z1, s1⟩ := sp.some hb2 hlt (show 1 < layTape.sz by decide)
      have s1 : w2.cell? ⟨w.heap.size, k * 2 + 1, none⟩ = some z1 := s1
      have sf1 := (sp.below hb2).frozen (k * 2 + 1)
      have N := sp.next hb2 hlt o2 hb.size
      have N2 : Below w.heap.size w (stN w2 w.heap.size (k * layTape.sz) [.bool (x k).wiped, .slice bao1 (x k).recs.1 bcap1]) := (hb.trans (hb2.mono hb.size)).trans (stN_below (Nat.le_refl _) _ _)
      clear o2 hb2 sp hb
      go_wp2_with fail
      go_roundw
      case rel =>
        obtain ⟨ce', Ls', N⟩ := N
        exact ⟨k + 1, by omega, by go_num, ce', Ls', N, N2⟩
      case measure => simp [intOf]; omega
    · obtain rfl : k = n := by omega
      go_wp2
      go_ret
      exact ⟨_, rfl, sp.done (Nat.le_refl _), hb⟩
end Go.Proofs.Ytgpglgchbimmaaa

namespace Go.Proofs.Ytgpglgchbimmaaa
open Go.RowKit F256
set_option linter.unusedVariables false
set_option linter.unusedSimpArgs false
set_option maxHeartbeats 8000000 in
set_option maxRecDepth 20000 in
theorem toWorld_is : ToV layWorld szWorldD 7 := fun cs d hi w r hhi hn => by
  obtain ⟨ao1, cap1, ao2, cap2, ao3, cap3, rfl, h1, h2, h3, k0, k4, k5⟩ := World_rd r
  clear r
  unfold szWorldD at hn
  have R1 : Hid (((layDrive.slice 86).slice 83).rd w hi d.groups [.slice ao1 d.groups.1 cap1]) := h1
  have R2 : Hid (layInts.rd w hi d.on [.slice ao2 d.on.1 cap2]) := h2
  have R3 : Hid ((layTape.slice 57).rd w hi d.tapes [.slice ao3 d.tapes.1 cap3]) := h3
  clear h1 h2 h3
  have Q0 : Hid ((∀ i, -9223372036854775808 ≤ d.shape i ∧ d.shape i ≤ 9223372036854775807)) := k0
  have Q4 : Hid ((-9223372036854775808 ≤ d.writes ∧ d.writes ≤ 9223372036854775807)) := k4
  have Q5 : Hid ((-9223372036854775808 ≤ d.stop ∧ d.stop ≤ 9223372036854775807)) := k5
  clear k0 k4 k5
  go_enter Try.func7, Try.ntmps7
  go_wp2_with fail
  have T0 := three_newb w #[.int .i64 (d.shape 0), .int .i64 (d.shape 1), .int .i64 (d.shape 2), .int .i64 (d.shape 3), .int .i64 (d.shape 4), .int .i64 (d.shape 5), .int .i64 (d.shape 6), .int .i64 (d.shape 7), .int .i64 (d.shape 8), .slice ao1 d.groups.1 cap1, .slice ao2 d.on.1 cap2, .slice ao3 d.tapes.1 cap3, .int .i64 d.writes, .int .i64 d.stop, .bool d.down] #[.int .i64 0, .int .i64 0, .int .i64 0, .int .i64 0, .int .i64 0, .int .i64 0, .int .i64 0, .int .i64 0, .int .i64 0, .slice none 0 0, .slice none 0 0, .slice none 0 0, .int .i64 0, .int .i64 0, .bool false] #[.int .i64 0, .int .i64 0, .int .i64 0, .int .i64 0, .int .i64 0, .int .i64 0, .int .i64 0, .int .i64 0, .int .i64 0, .slice none 0 0, .slice none 0 0, .slice none 0 0, .int .i64 0, .int .i64 0, .bool false] 28 35 35
  refine (toShape_any d.shape _).mono ?_
  rintro e w1 ⟨rfl, b1⟩
  unfold shapeV
  have L1 := T0.lt
  have T1 : Three w w1 #[.int .i64 (d.shape 0), .int .i64 (d.shape 1), .int .i64 (d.shape 2), .int .i64 (d.shape 3), .int .i64 (d.shape 4), .int .i64 (d.shape 5), .int .i64 (d.shape 6), .int .i64 (d.shape 7), .int .i64 (d.shape 8), .slice ao1 d.groups.1 cap1, .slice ao2 d.on.1 cap2, .slice ao3 d.tapes.1 cap3, .int .i64 d.writes, .int .i64 d.stop, .bool d.down] #[.int .i64 0, .int .i64 0, .int .i64 0, .int .i64 0, .int .i64 0, .int .i64 0, .int .i64 0, .int .i64 0, .int .i64 0, .slice none 0 0, .slice none 0 0, .slice none 0 0, .int .i64 0, .int .i64 0, .bool false] #[.int .i64 0, .int .i64 0, .int .i64 0, .int .i64 0, .int .i64 0, .int .i64 0, .int .i64 0, .int .i64 0, .int .i64 0, .slice none 0 0, .slice none 0 0, .slice none 0 0, .int .i64 0, .int .i64 0, .bool false] 28 35 35 := T0.call b1
  have LT1 : w.heap.size + 1 + 1 + 1 ≤ w1.heap.size := T1.lt
  have x1_9 : w1.cell? ⟨w.heap.size, 9, none⟩ = some (.slice ao1 d.groups.1 cap1) := T1.b1.cell 9
  have y1_0 : w1.cell? ⟨w.heap.size + 1 + 1, 0, none⟩ = some (.int .i64 0) := T1.b3.cell 0
  have y1_1 : w1.cell? ⟨w.heap.size + 1 + 1, 1, none⟩ = some (.int .i64 0) := T1.b3.cell 1
  have y1_2 : w1.cell? ⟨w.heap.size + 1 + 1, 2, none⟩ = some (.int .i64 0) := T1.b3.cell 2
  have y1_3 : w1.cell? ⟨w.heap.size + 1 + 1, 3, none⟩ = some (.int .i64 0) := T1.b3.cell 3
  have y1_4 : w1.cell? ⟨w.heap.size + 1 + 1, 4, none⟩ = some (.int .i64 0) := T1.b3.cell 4
  have y1_5 : w1.cell? ⟨w.heap.size + 1 + 1, 5, none⟩ = some (.int .i64 0) := T1.b3.cell 5
  have y1_6 : w1.cell? ⟨w.heap.size + 1 + 1, 6, none⟩ = some (.int .i64 0) := T1.b3.cell 6
  have y1_7 : w1.cell? ⟨w.heap.size + 1 + 1, 7, none⟩ = some (.int .i64 0) := T1.b3.cell 7
  have y1_8 : w1.cell? ⟨w.heap.size + 1 + 1, 8, none⟩ = some (.int .i64 0) := T1.b3.cell 8
  have yf1_0 : w1.frozen? ⟨w.heap.size + 1 + 1, 0, none⟩ = false := T1.b3.frozen 0
  have yf1_1 : w1.frozen? ⟨w.heap.size + 1 + 1, 1, none⟩ = false := T1.b3.frozen 1
  have yf1_2 : w1.frozen? ⟨w.heap.size + 1 + 1, 2, none⟩ = false := T1.b3.frozen 2
  have yf1_3 : w1.frozen? ⟨w.heap.size + 1 + 1, 3, none⟩ = false := T1.b3.frozen 3
  have yf1_4 : w1.frozen? ⟨w.heap.size + 1 + 1, 4, none⟩ = false := T1.b3.frozen 4
  have yf1_5 : w1.frozen? ⟨w.heap.size + 1 + 1, 5, none⟩ = false := T1.b3.frozen 5
  have yf1_6 : w1.frozen? ⟨w.heap.size + 1 + 1, 6, none⟩ = false := T1.b3.frozen 6
  have yf1_7 : w1.frozen? ⟨w.heap.size + 1 + 1, 7, none⟩ = false := T1.b3.frozen 7
  have yf1_8 : w1.frozen? ⟨w.heap.size + 1 + 1, 8, none⟩ = false := T1.b3.frozen 8
  have V1 : Three w (((((((((w1.setCell ⟨w.heap.size + 1 + 1, 0, none⟩ (.int .i64 (d.shape 0))).setCell ⟨w.heap.size + 1 + 1, 1, none⟩ (.int .i64 (d.shape 1))).setCell ⟨w.heap.size + 1 + 1, 2, none⟩ (.int .i64 (d.shape 2))).setCell ⟨w.heap.size + 1 + 1, 3, none⟩ (.int .i64 (d.shape 3))).setCell ⟨w.heap.size + 1 + 1, 4, none⟩ (.int .i64 (d.shape 4))).setCell ⟨w.heap.size + 1 + 1, 5, none⟩ (.int .i64 (d.shape 5))).setCell ⟨w.heap.size + 1 + 1, 6, none⟩ (.int .i64 (d.shape 6))).setCell ⟨w.heap.size + 1 + 1, 7, none⟩ (.int .i64 (d.shape 7))).setCell ⟨w.heap.size + 1 + 1, 8, none⟩ (.int .i64 (d.shape 8))) #[.int .i64 (d.shape 0), .int .i64 (d.shape 1), .int .i64 (d.shape 2), .int .i64 (d.shape 3), .int .i64 (d.shape 4), .int .i64 (d.shape 5), .int .i64 (d.shape 6), .int .i64 (d.shape 7), .int .i64 (d.shape 8), .slice ao1 d.groups.1 cap1, .slice ao2 d.on.1 cap2, .slice ao3 d.tapes.1 cap3, .int .i64 d.writes, .int .i64 d.stop, .bool d.down] #[.int .i64 0, .int .i64 0, .int .i64 0, .int .i64 0, .int .i64 0, .int .i64 0, .int .i64 0, .int .i64 0, .int .i64 0, .slice none 0 0, .slice none 0 0, .slice none 0 0, .int .i64 0, .int .i64 0, .bool false] #[.int .i64 (d.shape 0), .int .i64 (d.shape 1), .int .i64 (d.shape 2), .int .i64 (d.shape 3), .int .i64 (d.shape 4), .int .i64 (d.shape 5), .int .i64 (d.shape 6), .int .i64 (d.shape 7), .int .i64 (d.shape 8), .slice none 0 0, .slice none 0 0, .slice none 0 0, .int .i64 0, .int .i64 0, .bool false] 28 35 35 := T1.st3 0 [.int .i64 (d.shape 0), .int .i64 (d.shape 1), .int .i64 (d.shape 2), .int .i64 (d.shape 3), .int .i64 (d.shape 4), .int .i64 (d.shape 5), .int .i64 (d.shape 6), .int .i64 (d.shape 7), .int .i64 (d.shape 8)] (c3' := [.int .i64 (d.shape 0), .int .i64 (d.shape 1), .int .i64 (d.shape 2), .int .i64 (d.shape 3), .int .i64 (d.shape 4), .int .i64 (d.shape 5), .int .i64 (d.shape 6), .int .i64 (d.shape 7), .int .i64 (d.shape 8), .slice none 0 0, .slice none 0 0, .slice none 0 0, .int .i64 0, .int .i64 0, .bool false]) rfl
  clear T1 b1
  go_wp2_with fail
  refine (toDriveSS_is _ d.groups hi _ (((layDrive.slice 86).slice 83).rd_below R1.out V1.bel hhi) (Nat.le_trans hhi V1.bel.size) (by omega)).mono ?_
  rintro e w2 ⟨v2, rfl, o2, b2⟩
  have L2 := V1.lt
  obtain ⟨bo1, bcap1, hv⟩ := sl_formT o2
  obtain rfl := one_eq hv
  clear hv
  have T2 : Three w w2 #[.int .i64 (d.shape 0), .int .i64 (d.shape 1), .int .i64 (d.shape 2), .int .i64 (d.shape 3), .int .i64 (d.shape 4), .int .i64 (d.shape 5), .int .i64 (d.shape 6), .int .i64 (d.shape 7), .int .i64 (d.shape 8), .slice ao1 d.groups.1 cap1, .slice ao2 d.on.1 cap2, .slice ao3 d.tapes.1 cap3, .int .i64 d.writes, .int .i64 d.stop, .bool d.down] #[.int .i64 0, .int .i64 0, .int .i64 0, .int .i64 0, .int .i64 0, .int .i64 0, .int .i64 0, .int .i64 0, .int .i64 0, .slice none 0 0, .slice none 0 0, .slice none 0 0, .int .i64 0, .int .i64 0, .bool false] #[.int .i64 (d.shape 0), .int .i64 (d.shape 1), .int .i64 (d.shape 2), .int .i64 (d.shape 3), .int .i64 (d.shape 4), .int .i64 (d.shape 5), .int .i64 (d.shape 6), .int .i64 (d.shape 7), .int .i64 (d.shape 8), .slice none 0 0, .slice none 0 0, .slice none 0 0, .int .i64 0, .int .i64 0, .bool false] 28 35 35 := V1.call b2
  have O1 : Hid (OwnT ((layDrive.slice 86).slice 83) w2 (w.heap.size + 1 + 1 + 1) (w2.heap.size) d.groups [.slice bo1 d.groups.1 bcap1]) := o2.weaken (by simp <;> omega) (Nat.le_refl _)
  clear o2
  have LT2 : w.heap.size + 1 + 1 + 1 ≤ w2.heap.size := T2.lt
  have S2 : w1.heap.size ≤ w2.heap.size := by
    have := b2.size
    simpa using this
  have x2_10 : w2.cell? ⟨w.heap.size, 10, none⟩ = some (.slice ao2 d.on.1 cap2) := T2.b1.cell 10
  have y2_9 : w2.cell? ⟨w.heap.size + 1 + 1, 9, none⟩ = some (.slice none 0 0) := T2.b3.cell 9
  have yf2_9 : w2.frozen? ⟨w.heap.size + 1 + 1, 9, none⟩ = false := T2.b3.frozen 9
  have V2 : Three w (w2.setCell ⟨w.heap.size + 1 + 1, 9, none⟩ (.slice bo1 d.groups.1 bcap1)) #[.int .i64 (d.shape 0), .int .i64 (d.shape 1), .int .i64 (d.shape 2), .int .i64 (d.shape 3), .int .i64 (d.shape 4), .int .i64 (d.shape 5), .int .i64 (d.shape 6), .int .i64 (d.shape 7), .int .i64 (d.shape 8), .slice ao1 d.groups.1 cap1, .slice ao2 d.on.1 cap2, .slice ao3 d.tapes.1 cap3, .int .i64 d.writes, .int .i64 d.stop, .bool d.down] #[.int .i64 0, .int .i64 0, .int .i64 0, .int .i64 0, .int .i64 0, .int .i64 0, .int .i64 0, .int .i64 0, .int .i64 0, .slice none 0 0, .slice none 0 0, .slice none 0 0, .int .i64 0, .int .i64 0, .bool false] #[.int .i64 (d.shape 0), .int .i64 (d.shape 1), .int .i64 (d.shape 2), .int .i64 (d.shape 3), .int .i64 (d.shape 4), .int .i64 (d.shape 5), .int .i64 (d.shape 6), .int .i64 (d.shape 7), .int .i64 (d.shape 8), .slice bo1 d.groups.1 bcap1, .slice none 0 0, .slice none 0 0, .int .i64 0, .int .i64 0, .bool false] 28 35 35 := T2.st3 9 [.slice bo1 d.groups.1 bcap1] (c3' := [.int .i64 (d.shape 0), .int .i64 (d.shape 1), .int .i64 (d.shape 2), .int .i64 (d.shape 3), .int .i64 (d.shape 4), .int .i64 (d.shape 5), .int .i64 (d.shape 6), .int .i64 (d.shape 7), .int .i64 (d.shape 8), .slice bo1 d.groups.1 bcap1, .slice none 0 0, .slice none 0 0, .int .i64 0, .int .i64 0, .bool false]) rfl
  clear T2 b2
  go_wp2_with fail
  refine (toInts_is _ d.on hi _ (layInts.rd_below R2.out V2.bel hhi) (Nat.le_trans hhi V2.bel.size) (by omega)).mono ?_
  rintro e w3 ⟨v3, rfl, o3, b3⟩
  have L3 := V2.lt
  obtain ⟨bo2, bcap2, hv⟩ := ints_formT o3
  obtain rfl := one_eq hv
  clear hv
  have T3 : Three w w3 #[.int .i64 (d.shape 0), .int .i64 (d.shape 1), .int .i64 (d.shape 2), .int .i64 (d.shape 3), .int .i64 (d.shape 4), .int .i64 (d.shape 5), .int .i64 (d.shape 6), .int .i64 (d.shape 7), .int .i64 (d.shape 8), .slice ao1 d.groups.1 cap1, .slice ao2 d.on.1 cap2, .slice ao3 d.tapes.1 cap3, .int .i64 d.writes, .int .i64 d.stop, .bool d.down] #[.int .i64 0, .int .i64 0, .int .i64 0, .int .i64 0, .int .i64 0, .int .i64 0, .int .i64 0, .int .i64 0, .int .i64 0, .slice none 0 0, .slice none 0 0, .slice none 0 0, .int .i64 0, .int .i64 0, .bool false] #[.int .i64 (d.shape 0), .int .i64 (d.shape 1), .int .i64 (d.shape 2), .int .i64 (d.shape 3), .int .i64 (d.shape 4), .int .i64 (d.shape 5), .int .i64 (d.shape 6), .int .i64 (d.shape 7), .int .i64 (d.shape 8), .slice bo1 d.groups.1 bcap1, .slice none 0 0, .slice none 0 0, .int .i64 0, .int .i64 0, .bool false] 28 35 35 := V2.call b3
  have O1x : OwnT ((layDrive.slice 86).slice 83) w3 (w.heap.size + 1 + 1 + 1) (w2.heap.size) d.groups [.slice bo1 d.groups.1 bcap1] := ((O1.out).set (show w.heap.size + 1 + 1 < _ by omega)).call b3
  clear O1
  have O1 : Hid (OwnT ((layDrive.slice 86).slice 83) w3 (w.heap.size + 1 + 1 + 1) (w2.heap.size) d.groups [.slice bo1 d.groups.1 bcap1]) := O1x
  clear O1x
  have O2 : Hid (OwnT layInts w3 (w2.heap.size) (w3.heap.size) d.on [.slice bo2 d.on.1 bcap2]) := o3.weaken (by simp <;> omega) (Nat.le_refl _)
  clear o3
  have LT3 : w.heap.size + 1 + 1 + 1 ≤ w3.heap.size := T3.lt
  have S3 : w2.heap.size ≤ w3.heap.size := by
    have := b3.size
    simpa using this
  have x3_11 : w3.cell? ⟨w.heap.size, 11, none⟩ = some (.slice ao3 d.tapes.1 cap3) := T3.b1.cell 11
  have y3_10 : w3.cell? ⟨w.heap.size + 1 + 1, 10, none⟩ = some (.slice none 0 0) := T3.b3.cell 10
  have yf3_10 : w3.frozen? ⟨w.heap.size + 1 + 1, 10, none⟩ = false := T3.b3.frozen 10
  have V3 : Three w (w3.setCell ⟨w.heap.size + 1 + 1, 10, none⟩ (.slice bo2 d.on.1 bcap2)) #[.int .i64 (d.shape 0), .int .i64 (d.shape 1), .int .i64 (d.shape 2), .int .i64 (d.shape 3), .int .i64 (d.shape 4), .int .i64 (d.shape 5), .int .i64 (d.shape 6), .int .i64 (d.shape 7), .int .i64 (d.shape 8), .slice ao1 d.groups.1 cap1, .slice ao2 d.on.1 cap2, .slice ao3 d.tapes.1 cap3, .int .i64 d.writes, .int .i64 d.stop, .bool d.down] #[.int .i64 0, .int .i64 0, .int .i64 0, .int .i64 0, .int .i64 0, .int .i64 0, .int .i64 0, .int .i64 0, .int .i64 0, .slice none 0 0, .slice none 0 0, .slice none 0 0, .int .i64 0, .int .i64 0, .bool false] #[.int .i64 (d.shape 0), .int .i64 (d.shape 1), .int .i64 (d.shape 2), .int .i64 (d.shape 3), .int .i64 (d.shape 4), .int .i64 (d.shape 5), .int .i64 (d.shape 6), .int .i64 (d.shape 7), .int .i64 (d.shape 8), .slice bo1 d.groups.1 bcap1, .slice bo2 d.on.1 bcap2, .slice none 0 0, .int .i64 0, .int .i64 0, .bool false] 28 35 35 := T3.st3 10 [.slice bo2 d.on.1 bcap2] (c3' := [.int .i64 (d.shape 0), .int .i64 (d.shape 1), .int .i64 (d.shape 2), .int .i64 (d.shape 3), .int .i64 (d.shape 4), .int .i64 (d.shape 5), .int .i64 (d.shape 6), .int .i64 (d.shape 7), .int .i64 (d.shape 8), .slice bo1 d.groups.1 bcap1, .slice bo2 d.on.1 bcap2, .slice none 0 0, .int .i64 0, .int .i64 0, .bool false]) rfl
  clear T3 b3
  go_wp2_with fail
  refine (toTapeS_is _ d.tapes hi _ ((layTape.slice 57).rd_below R3.out V3.bel hhi) (Nat.le_trans hhi V3.bel.size) (by omega)).mono ?_
  rintro e w4 ⟨v4, rfl, o4, b4⟩
  have L4 := V3.lt
  obtain ⟨bo3, bcap3, hv⟩ := sl_formT o4
  obtain rfl := one_eq hv
  clear hv
  have T4 : Three w w4 #[.int .i64 (d.shape 0), .int .i64 (d.shape 1), .int .i64 (d.shape 2), .int .i64 (d.shape 3), .int .i64 (d.shape 4), .int .i64 (d.shape 5), .int .i64 (d.shape 6), .int .i64 (d.shape 7), .int .i64 (d.shape 8), .slice ao1 d.groups.1 cap1, .slice ao2 d.on.1 cap2, .slice ao3 d.tapes.1 cap3, .int .i64 d.writes, .int .i64 d.stop, .bool d.down] #[.int .i64 0, .int .i64 0, .int .i64 0, .int .i64 0, .int .i64 0, .int .i64 0, .int .i64 0, .int .i64 0, .int .i64 0, .slice none 0 0, .slice none 0 0, .slice none 0 0, .int .i64 0, .int .i64 0, .bool false] #[.int .i64 (d.shape 0), .int .i64 (d.shape 1), .int .i64 (d.shape 2), .int .i64 (d.shape 3), .int .i64 (d.shape 4), .int .i64 (d.shape 5), .int .i64 (d.shape 6), .int .i64 (d.shape 7), .int .i64 (d.shape 8), .slice bo1 d.groups.1 bcap1, .slice bo2 d.on.1 bcap2, .slice none 0 0, .int .i64 0, .int .i64 0, .bool false] 28 35 35 := V3.call b4
  have O1x : OwnT ((layDrive.slice 86).slice 83) w4 (w.heap.size + 1 + 1 + 1) (w2.heap.size) d.groups [.slice bo1 d.groups.1 bcap1] := ((O1.out).set (show w.heap.size + 1 + 1 < _ by omega)).call b4
  clear O1
  have O1 : Hid (OwnT ((layDrive.slice 86).slice 83) w4 (w.heap.size + 1 + 1 + 1) (w2.heap.size) d.groups [.slice bo1 d.groups.1 bcap1]) := O1x
  clear O1x
  have O2x : OwnT layInts w4 (w2.heap.size) (w3.heap.size) d.on [.slice bo2 d.on.1 bcap2] := ((O2.out).set (show w.heap.size + 1 + 1 < _ by omega)).call b4
  clear O2
  have O2 : Hid (OwnT layInts w4 (w2.heap.size) (w3.heap.size) d.on [.slice bo2 d.on.1 bcap2]) := O2x
  clear O2x
  have O3 : Hid (OwnT (layTape.slice 57) w4 (w3.heap.size) (w4.heap.size) d.tapes [.slice bo3 d.tapes.1 bcap3]) := o4.weaken (by simp <;> omega) (Nat.le_refl _)
  clear o4
  have LT4 : w.heap.size + 1 + 1 + 1 ≤ w4.heap.size := T4.lt
  have S4 : w3.heap.size ≤ w4.heap.size := by
    have := b4.size
    simpa using this
  have x4_12 : w4.cell? ⟨w.heap.size, 12, none⟩ = some (.int .i64 d.writes) := T4.b1.cell 12
  have x4_13 : w4.cell? ⟨w.heap.size, 13, none⟩ = some (.int .i64 d.stop) := T4.b1.cell 13
  have x4_14 : w4.cell? ⟨w.heap.size, 14, none⟩ = some (.bool d.down) := T4.b1.cell 14
  have y4_0 : w4.cell? ⟨w.heap.size + 1 + 1, 0, none⟩ = some (.int .i64 (d.shape 0)) := T4.b3.cell 0
  have y4_1 : w4.cell? ⟨w.heap.size + 1 + 1, 1, none⟩ = some (.int .i64 (d.shape 1)) := T4.b3.cell 1
  have y4_2 : w4.cell? ⟨w.heap.size + 1 + 1, 2, none⟩ = some (.int .i64 (d.shape 2)) := T4.b3.cell 2
  have y4_3 : w4.cell? ⟨w.heap.size + 1 + 1, 3, none⟩ = some (.int .i64 (d.shape 3)) := T4.b3.cell 3
  have y4_4 : w4.cell? ⟨w.heap.size + 1 + 1, 4, none⟩ = some (.int .i64 (d.shape 4)) := T4.b3.cell 4
  have y4_5 : w4.cell? ⟨w.heap.size + 1 + 1, 5, none⟩ = some (.int .i64 (d.shape 5)) := T4.b3.cell 5
  have y4_6 : w4.cell? ⟨w.heap.size + 1 + 1, 6, none⟩ = some (.int .i64 (d.shape 6)) := T4.b3.cell 6
  have y4_7 : w4.cell? ⟨w.heap.size + 1 + 1, 7, none⟩ = some (.int .i64 (d.shape 7)) := T4.b3.cell 7
  have y4_8 : w4.cell? ⟨w.heap.size + 1 + 1, 8, none⟩ = some (.int .i64 (d.shape 8)) := T4.b3.cell 8
  have y4_9 : w4.cell? ⟨w.heap.size + 1 + 1, 9, none⟩ = some (.slice bo1 d.groups.1 bcap1) := T4.b3.cell 9
  have y4_10 : w4.cell? ⟨w.heap.size + 1 + 1, 10, none⟩ = some (.slice bo2 d.on.1 bcap2) := T4.b3.cell 10
  have y4_11 : w4.cell? ⟨w.heap.size + 1 + 1, 11, none⟩ = some (.slice none 0 0) := T4.b3.cell 11
  have y4_12 : w4.cell? ⟨w.heap.size + 1 + 1, 12, none⟩ = some (.int .i64 0) := T4.b3.cell 12
  have y4_13 : w4.cell? ⟨w.heap.size + 1 + 1, 13, none⟩ = some (.int .i64 0) := T4.b3.cell 13
  have y4_14 : w4.cell? ⟨w.heap.size + 1 + 1, 14, none⟩ = some (.bool false) := T4.b3.cell 14
  have yf4_11 : w4.frozen? ⟨w.heap.size + 1 + 1, 11, none⟩ = false := T4.b3.frozen 11
  have yf4_12 : w4.frozen? ⟨w.heap.size + 1 + 1, 12, none⟩ = false := T4.b3.frozen 12
  have yf4_13 : w4.frozen? ⟨w.heap.size + 1 + 1, 13, none⟩ = false := T4.b3.frozen 13
  have yf4_14 : w4.frozen? ⟨w.heap.size + 1 + 1, 14, none⟩ = false := T4.b3.frozen 14
  have z4_0 : w4.cell? ⟨w.heap.size + 1, 0, none⟩ = some (.int .i64 0) := T4.b2.cell 0
  have zf4_0 : w4.frozen? ⟨w.heap.size + 1, 0, none⟩ = false := T4.b2.frozen 0
  have z4_1 : w4.cell? ⟨w.heap.size + 1, 1, none⟩ = some (.int .i64 0) := T4.b2.cell 1
  have zf4_1 : w4.frozen? ⟨w.heap.size + 1, 1, none⟩ = false := T4.b2.frozen 1
  have z4_2 : w4.cell? ⟨w.heap.size + 1, 2, none⟩ = some (.int .i64 0) := T4.b2.cell 2
  have zf4_2 : w4.frozen? ⟨w.heap.size + 1, 2, none⟩ = false := T4.b2.frozen 2
  have z4_3 : w4.cell? ⟨w.heap.size + 1, 3, none⟩ = some (.int .i64 0) := T4.b2.cell 3
  have zf4_3 : w4.frozen? ⟨w.heap.size + 1, 3, none⟩ = false := T4.b2.frozen 3
  have z4_4 : w4.cell? ⟨w.heap.size + 1, 4, none⟩ = some (.int .i64 0) := T4.b2.cell 4
  have zf4_4 : w4.frozen? ⟨w.heap.size + 1, 4, none⟩ = false := T4.b2.frozen 4
  have z4_5 : w4.cell? ⟨w.heap.size + 1, 5, none⟩ = some (.int .i64 0) := T4.b2.cell 5
  have zf4_5 : w4.frozen? ⟨w.heap.size + 1, 5, none⟩ = false := T4.b2.frozen 5
  have z4_6 : w4.cell? ⟨w.heap.size + 1, 6, none⟩ = some (.int .i64 0) := T4.b2.cell 6
  have zf4_6 : w4.frozen? ⟨w.heap.size + 1, 6, none⟩ = false := T4.b2.frozen 6
  have z4_7 : w4.cell? ⟨w.heap.size + 1, 7, none⟩ = some (.int .i64 0) := T4.b2.cell 7
  have zf4_7 : w4.frozen? ⟨w.heap.size + 1, 7, none⟩ = false := T4.b2.frozen 7
  have z4_8 : w4.cell? ⟨w.heap.size + 1, 8, none⟩ = some (.int .i64 0) := T4.b2.cell 8
  have zf4_8 : w4.frozen? ⟨w.heap.size + 1, 8, none⟩ = false := T4.b2.frozen 8
  have z4_9 : w4.cell? ⟨w.heap.size + 1, 9, none⟩ = some (.slice none 0 0) := T4.b2.cell 9
  have zf4_9 : w4.frozen? ⟨w.heap.size + 1, 9, none⟩ = false := T4.b2.frozen 9
  have z4_10 : w4.cell? ⟨w.heap.size + 1, 10, none⟩ = some (.slice none 0 0) := T4.b2.cell 10
  have zf4_10 : w4.frozen? ⟨w.heap.size + 1, 10, none⟩ = false := T4.b2.frozen 10
  have z4_11 : w4.cell? ⟨w.heap.size + 1, 11, none⟩ = some (.slice none 0 0) := T4.b2.cell 11
  have zf4_11 : w4.frozen? ⟨w.heap.size + 1, 11, none⟩ = false := T4.b2.frozen 11
  have z4_12 : w4.cell? ⟨w.heap.size + 1, 12, none⟩ = some (.int .i64 0) := T4.b2.cell 12
  have zf4_12 : w4.frozen? ⟨w.heap.size + 1, 12, none⟩ = false := T4.b2.frozen 12
  have z4_13 : w4.cell? ⟨w.heap.size + 1, 13, none⟩ = some (.int .i64 0) := T4.b2.cell 13
  have zf4_13 : w4.frozen? ⟨w.heap.size + 1, 13, none⟩ = false := T4.b2.frozen 13
  have z4_14 : w4.cell? ⟨w.heap.size + 1, 14, none⟩ = some (.bool false) := T4.b2.cell 14
  have zf4_14 : w4.frozen? ⟨w.heap.size + 1, 14, none⟩ = false := T4.b2.frozen 14
  have Bq : Hid (Below w.heap.size w w4) := T4.bel
  clear T4 b4
  go_wp2
  refine bodyPost_ret (v := .agg #[.int .i64 (d.shape 0), .int .i64 (d.shape 1), .int .i64 (d.shape 2), .int .i64 (d.shape 3), .int .i64 (d.shape 4), .int .i64 (d.shape 5), .int .i64 (d.shape 6), .int .i64 (d.shape 7), .int .i64 (d.shape 8), .slice bo1 d.groups.1 bcap1, .slice bo2 d.on.1 bcap2, .slice bo3 d.tapes.1 bcap3, .int .i64 d.writes, .int .i64 d.stop, .bool d.down]) (by simp [results, Try.results7, go_sem, y4_0, z4_0, y4_1, z4_1, y4_2, z4_2, y4_3, z4_3, y4_4, z4_4, y4_5, z4_5, y4_6, z4_6, y4_7, z4_7, y4_8, z4_8, y4_9, z4_9, y4_10, z4_10, y4_11, z4_11, y4_12, z4_12, y4_13, z4_13, y4_14, z4_14]) rfl ?_
  have F : OwnT layWorld w4 (w.heap.size + 1 + 1 + 1) w4.heap.size d ([.int .i64 (d.shape 0), .int .i64 (d.shape 1), .int .i64 (d.shape 2), .int .i64 (d.shape 3), .int .i64 (d.shape 4), .int .i64 (d.shape 5), .int .i64 (d.shape 6), .int .i64 (d.shape 7), .int .i64 (d.shape 8)] ++ ([.slice bo1 d.groups.1 bcap1] ++ ([.slice bo2 d.on.1 bcap2] ++ ([.slice bo3 d.tapes.1 bcap3] ++ ([.int .i64 d.writes] ++ ([.int .i64 d.stop] ++ [.bool d.down])))))) := OwnT.conv (OwnT.pre (A := (layNums 9)) (a := d.shape) (c := [.int .i64 (d.shape 0), .int .i64 (d.shape 1), .int .i64 (d.shape 2), .int .i64 (d.shape 3), .int .i64 (d.shape 4), .int .i64 (d.shape 5), .int .i64 (d.shape 6), .int .i64 (d.shape 7), .int .i64 (d.shape 8)]) ⟨rfl, Q0.out, rfl⟩ (OwnT.two O1.out (OwnT.two O2.out (OwnT.two O3.out (OwnT.pre (A := layI) (a := d.writes) (c := [.int .i64 d.writes]) ⟨rfl, Q4.out, rfl⟩ (OwnT.pre (A := layI) (a := d.stop) (c := [.int .i64 d.stop]) ⟨rfl, Q5.out, rfl⟩ (OwnT.nil (A := layB) (a := d.down) (c := [.bool d.down]) ⟨rfl, trivial, rfl⟩ w4.heap.size w4.heap.size))) (by omega) (by omega) (by omega)) (by omega) (by omega) (by omega)) (by omega) (by omega) (by omega)))
  exact ⟨[.int .i64 (d.shape 0), .int .i64 (d.shape 1), .int .i64 (d.shape 2), .int .i64 (d.shape 3), .int .i64 (d.shape 4), .int .i64 (d.shape 5), .int .i64 (d.shape 6), .int .i64 (d.shape 7), .int .i64 (d.shape 8), .slice bo1 d.groups.1 bcap1, .slice bo2 d.on.1 bcap2, .slice bo3 d.tapes.1 bcap3, .int .i64 d.writes, .int .i64 d.stop, .bool d.down], rfl, OwnT.fin F 11 0 [.slice bo3 d.tapes.1 bcap3, .int .i64 d.writes, .int .i64 d.stop, .bool d.down] [.int .i64 (d.shape 0), .int .i64 (d.shape 1), .int .i64 (d.shape 2), .int .i64 (d.shape 3), .int .i64 (d.shape 4), .int .i64 (d.shape 5), .int .i64 (d.shape 6), .int .i64 (d.shape 7), .int .i64 (d.shape 8), .slice bo1 d.groups.1 bcap1, .slice bo2 d.on.1 bcap2, .slice bo3 d.tapes.1 bcap3, .int .i64 d.writes, .int .i64 d.stop, .bool d.down] _ rfl, below_fin Bq.out 11 0 [.slice bo3 d.tapes.1 bcap3, .int .i64 d.writes, .int .i64 d.stop, .bool d.down] [.int .i64 (d.shape 0), .int .i64 (d.shape 1), .int .i64 (d.shape 2), .int .i64 (d.shape 3), .int .i64 (d.shape 4), .int .i64 (d.shape 5), .int .i64 (d.shape 6), .int .i64 (d.shape 7), .int .i64 (d.shape 8), .slice bo1 d.groups.1 bcap1, .slice bo2 d.on.1 bcap2, .slice bo3 d.tapes.1 bcap3, .int .i64 d.writes, .int .i64 d.stop, .bool d.down] _ rfl⟩
end Go.Proofs.Ytgpglgchbimmaaa

namespace Go.Proofs.Ytgpglgchbimmaaa
open Go.RowKit F256
set_option linter.unusedVariables false
set_option linter.unusedSimpArgs false
set_option maxHeartbeats 8000000 in
set_option maxRecDepth 20000 in
theorem eqBlock_is : EqV layBlock 96 := fun c1 c2 d h1 h2 w r1 r2 u1 u2 => by
  obtain ⟨ao1, cap1, rfl, g1, -⟩ := Block_rd r1
  obtain ⟨bao1, bcap1, rfl, q1, -⟩ := Block_rd r2
  clear r1 r2
  have G1 : Hid (layBytes.rd w h1 d.bytes [.slice ao1 d.bytes.1 cap1]) := g1
  have E1 : Hid (layBytes.rd w h2 d.bytes [.slice bao1 d.bytes.1 bcap1]) := q1
  clear g1 q1
  go_enter Try.func96, Try.ntmps96
  go_wp2_with fail
  have T0 := two_newb w #[.int .i64 d.stamp, .slice ao1 d.bytes.1 cap1] #[.int .i64 d.stamp, .slice bao1 d.bytes.1 bcap1] 88 88
  refine (eqBytes_is _ _ d.bytes h1 h2 _ (layBytes.rd_below G1.out T0.bel u1) (layBytes.rd_below E1.out T0.bel u2) (Nat.le_trans u1 T0.bel.size) (Nat.le_trans u2 T0.bel.size)).mono ?_
  rintro e w1 ⟨rfl, b1⟩
  have T1 : Two w w1 #[.int .i64 d.stamp, .slice ao1 d.bytes.1 cap1] #[.int .i64 d.stamp, .slice bao1 d.bytes.1 bcap1] 88 88 := T0.call b1
  clear T0 b1
  have B : Hid (Below w.heap.size w w1) := T1.bel
  clear T1
  go_wp2
  go_ret
  exact ⟨rfl, B.out⟩
set_option maxHeartbeats 4000000 in
theorem eqBlockS_is : EqS (layBlock.slice 88) 93 := fun v1 v2 d h1 h2 w r1 r2 u1 u2 => by
  obtain ⟨n, x⟩ := d
  obtain ⟨ao, cap, hv, hm, hc⟩ := r1
  cases hv
  obtain ⟨ao', cap', hv', hm', hc'⟩ := r2
  cases hv'
  simp only at hm hc hc'
  unfold maxLen at hm
  clear hm'
  go_enter Try.func93, Try.ntmps93
  go_wp2
  go_loopw [5] (fun i wr => ∃ k : Nat, k ≤ n ∧ i = .int .i64 k ∧ Below w.heap.size w wr) (fun i _ => n - (intOf i).toNat)
  case atStart => exact ⟨0, Nat.zero_le _, rfl, Below.refl _ _⟩
  case round =>
    obtain ⟨k, hk, rfl, hb⟩ := hrel
    by_cases hlt : k < n
    · obtain ⟨b, off, rfl, hblt, hel⟩ := hc (by omega)
      obtain ⟨b', off', rfl, hblt', hel'⟩ := hc' (by omega)
      obtain ⟨ck, hrk, hcell⟩ := elem_rd (t := 0) hel (below_drewN hb 1) u1 hblt hlt
      obtain ⟨ck', hrk', hcell'⟩ := elem_rd (t := 0) hel' (below_drewN hb 1) u2 hblt' hlt
      obtain ⟨ao1, cap1, rfl, -⟩ := Block_rd hrk
      obtain ⟨bao1, bcap1, rfl, -⟩ := Block_rd hrk'
      have c0 : wr.cell? ⟨b, off + k * 2, none⟩ = some (.int .i64 (x k).stamp) := hcell 0 (by decide)
      have c1 : wr.cell? ⟨b, off + k * 2 + 1, none⟩ = some (.slice ao1 (x k).bytes.1 cap1) := hcell 1 (by decide)
      have e0 : wr.cell? ⟨b', off' + k * 2, none⟩ = some (.int .i64 (x k).stamp) := hcell' 0 (by decide)
      have e1 : wr.cell? ⟨b', off' + k * 2 + 1, none⟩ = some (.slice bao1 (x k).bytes.1 bcap1) := hcell' 1 (by decide)
      have C1 := eqBlock_is _ _ (x k) h1 h2 (wr.drewN 1) hrk hrk' (Nat.le_trans u1 hb.size) (Nat.le_trans u2 hb.size)
      clear hc hc' hel hel' hcell hcell' hrk hrk'
      go_wp2
      go_region_with (go_at_call 96; refine C1.mono ?_; rintro ee w2 ⟨rfl, hb2⟩)
      all_goals
        have R' : Below w.heap.size w w2 := hb.trans ((below_drewN (Below.refl wr.heap.size wr) 1).trans hb2 |>.mono hb.size)
        clear hb2
        go_wp2
        go_roundw
        case rel => exact ⟨k + 1, by omega, by go_num, R'⟩
        case measure => simp [intOf]; omega
    · obtain rfl : k = n := by omega
      go_wp2
      go_ret
      exact ⟨rfl, hb⟩
set_option maxHeartbeats 8000000 in
set_option maxRecDepth 20000 in
theorem eqDrive_is : EqV layDrive 85 := fun c1 c2 d h1 h2 w r1 r2 u1 u2 => by
  obtain ⟨ao1, cap1, rfl, g1⟩ := Drive_rd r1
  obtain ⟨bao1, bcap1, rfl, q1⟩ := Drive_rd r2
  clear r1 r2
  have G1 : Hid ((layBlock.slice 88).rd w h1 d.blocks [.slice ao1 d.blocks.1 cap1]) := g1
  have E1 : Hid ((layBlock.slice 88).rd w h2 d.blocks [.slice bao1 d.blocks.1 bcap1]) := q1
  clear g1 q1
  go_enter Try.func85, Try.ntmps85
  go_wp2_with fail
  have T0 := two_newb w #[.bool d.wiped, .slice ao1 d.blocks.1 cap1] #[.bool d.wiped, .slice bao1 d.blocks.1 bcap1] 86 86
  refine (eqBlockS_is _ _ d.blocks h1 h2 _ ((layBlock.slice 88).rd_below G1.out T0.bel u1) ((layBlock.slice 88).rd_below E1.out T0.bel u2) (Nat.le_trans u1 T0.bel.size) (Nat.le_trans u2 T0.bel.size)).mono ?_
  rintro e w1 ⟨rfl, b1⟩
  have T1 : Two w w1 #[.bool d.wiped, .slice ao1 d.blocks.1 cap1] #[.bool d.wiped, .slice bao1 d.blocks.1 bcap1] 86 86 := T0.call b1
  clear T0 b1
  have B : Hid (Below w.heap.size w w1) := T1.bel
  clear T1
  go_wp2
  go_ret
  exact ⟨rfl, B.out⟩
set_option maxHeartbeats 4000000 in
theorem eqDriveS_is : EqS (layDrive.slice 86) 66 := fun v1 v2 d h1 h2 w r1 r2 u1 u2 => by
  obtain ⟨n, x⟩ := d
  obtain ⟨ao, cap, hv, hm, hc⟩ := r1
  cases hv
  obtain ⟨ao', cap', hv', hm', hc'⟩ := r2
  cases hv'
  simp only at hm hc hc'
  unfold maxLen at hm
  clear hm'
  go_enter Try.func66, Try.ntmps66
  go_wp2
  go_loopw [5] (fun i wr => ∃ k : Nat, k ≤ n ∧ i = .int .i64 k ∧ Below w.heap.size w wr) (fun i _ => n - (intOf i).toNat)
  case atStart => exact ⟨0, Nat.zero_le _, rfl, Below.refl _ _⟩
  case round =>
    obtain ⟨k, hk, rfl, hb⟩ := hrel
    by_cases hlt : k < n
    · obtain ⟨b, off, rfl, hblt, hel⟩ := hc (by omega)
      obtain ⟨b', off', rfl, hblt', hel'⟩ := hc' (by omega)
      obtain ⟨ck, hrk, hcell⟩ := elem_rd (t := 0) hel (below_drewN hb 1) u1 hblt hlt
      obtain ⟨ck', hrk', hcell'⟩ := elem_rd (t := 0) hel' (below_drewN hb 1) u2 hblt' hlt
      obtain ⟨ao1, cap1, rfl, -⟩ := Drive_rd hrk
      obtain ⟨bao1, bcap1, rfl, -⟩ := Drive_rd hrk'
      have c0 : wr.cell? ⟨b, off + k * 2, none⟩ = some (.bool (x k).wiped) := hcell 0 (by decide)
      have c1 : wr.cell? ⟨b, off + k * 2 + 1, none⟩ = some (.slice ao1 (x k).blocks.1 cap1) := hcell 1 (by decide)
      have e0 : wr.cell? ⟨b', off' + k * 2, none⟩ = some (.bool (x k).wiped) := hcell' 0 (by decide)
      have e1 : wr.cell? ⟨b', off' + k * 2 + 1, none⟩ = some (.slice bao1 (x k).blocks.1 bcap1) := hcell' 1 (by decide)
      have C1 := eqDrive_is _ _ (x k) h1 h2 (wr.drewN 1) hrk hrk' (Nat.le_trans u1 hb.size) (Nat.le_trans u2 hb.size)
      clear hc hc' hel hel' hcell hcell' hrk hrk'
      go_wp2
      go_region_with (go_at_call 85; refine C1.mono ?_; rintro ee w2 ⟨rfl, hb2⟩)
      all_goals
        have R' : Below w.heap.size w w2 := hb.trans ((below_drewN (Below.refl wr.heap.size wr) 1).trans hb2 |>.mono hb.size)
        clear hb2
        go_wp2
        go_roundw
        case rel => exact ⟨k + 1, by omega, by go_num, R'⟩
        case measure => simp [intOf]; omega
    · obtain rfl : k = n := by omega
      go_wp2
      go_ret
      exact ⟨rfl, hb⟩
set_option maxHeartbeats 4000000 in
theorem eqDriveSS_is : EqS ((layDrive.slice 86).slice 83) 36 := fun v1 v2 d h1 h2 w r1 r2 u1 u2 => by
  obtain ⟨n, x⟩ := d
  obtain ⟨ao, cap, hv, hm, hc⟩ := r1
  cases hv
  obtain ⟨ao', cap', hv', hm', hc'⟩ := r2
  cases hv'
  simp only at hm hc hc'
  unfold maxLen at hm
  clear hm'
  go_enter Try.func36, Try.ntmps36
  go_wp2
  go_loopw [5] (fun i wr => ∃ k : Nat, k ≤ n ∧ i = .int .i64 k ∧ Below w.heap.size w wr) (fun i _ => n - (intOf i).toNat)
  case atStart => exact ⟨0, Nat.zero_le _, rfl, Below.refl _ _⟩
  case round =>
    obtain ⟨k, hk, rfl, hb⟩ := hrel
    by_cases hlt : k < n
    · obtain ⟨b, off, rfl, hblt, hel⟩ := hc (by omega)
      obtain ⟨b', off', rfl, hblt', hel'⟩ := hc' (by omega)
      obtain ⟨ck, hrk, hcell⟩ := elem_rd (t := 0) hel (below_drewN hb 1) u1 hblt hlt
      obtain ⟨ck', hrk', hcell'⟩ := elem_rd (t := 0) hel' (below_drewN hb 1) u2 hblt' hlt
      obtain ⟨ao9, cap9, rfl⟩ := sl_form hrk
      obtain ⟨bao9, bcap9, rfl⟩ := sl_form hrk'
      have c0 : wr.cell? ⟨b, off + k, none⟩ = some (.slice ao9 (x k).1 cap9) := by
        have h := hcell 0 (show 0 < 1 by decide)
        rw [show (layDrive.slice 86).sz = 1 from rfl, Nat.mul_one, Nat.add_zero] at h
        exact h
      have e0 : wr.cell? ⟨b', off' + k, none⟩ = some (.slice bao9 (x k).1 bcap9) := by
        have h := hcell' 0 (show 0 < 1 by decide)
        rw [show (layDrive.slice 86).sz = 1 from rfl, Nat.mul_one, Nat.add_zero] at h
        exact h
      have C1 := eqDriveS_is _ _ (x k) h1 h2 (wr.drewN 1) hrk hrk' (Nat.le_trans u1 hb.size) (Nat.le_trans u2 hb.size)
      clear hc hc' hel hel' hcell hcell' hrk hrk'
      go_wp2
      go_region_with (go_at_call 66; refine C1.mono ?_; rintro ee w2 ⟨rfl, hb2⟩)
      all_goals
        have R' : Below w.heap.size w w2 := hb.trans ((below_drewN (Below.refl wr.heap.size wr) 1).trans hb2 |>.mono hb.size)
        clear hb2
        go_wp2
        go_roundw
        case rel => exact ⟨k + 1, by omega, by go_num, R'⟩
        case measure => simp [intOf]; omega
    · obtain rfl : k = n := by omega
      go_wp2
      go_ret
      exact ⟨rfl, hb⟩
end Go.Proofs.Ytgpglgchbimmaaa

namespace Go.Proofs.Ytgpglgchbimmaaa
open Go.RowKit F256
set_option linter.unusedVariables false
set_option linter.unusedSimpArgs false
set_option maxHeartbeats 8000000 in
set_option maxRecDepth 20000 in
theorem eqRec_is : EqV layRec 15 := fun c1 c2 d h1 h2 w r1 r2 u1 u2 => by
  obtain ⟨ao6, cap6, ao7, cap7, ao8, cap8, rfl, g6, g7, g8, -⟩ := Rec_rd r1
  obtain ⟨bao6, bcap6, bao7, bcap7, bao8, bcap8, rfl, q6, q7, q8, -⟩ := Rec_rd r2
  clear r1 r2
  have G6 : Hid (layInts.rd w h1 d.rows [.slice ao6 d.rows.1 cap6]) := g6
  have E6 : Hid (layInts.rd w h2 d.rows [.slice bao6 d.rows.1 bcap6]) := q6
  have G7 : Hid (layBytes.rd w h1 d.data [.slice ao7 d.data.1 cap7]) := g7
  have E7 : Hid (layBytes.rd w h2 d.data [.slice bao7 d.data.1 bcap7]) := q7
  have G8 : Hid (layBytes.rd w h1 d.delta [.slice ao8 d.delta.1 cap8]) := g8
  have E8 : Hid (layBytes.rd w h2 d.delta [.slice bao8 d.delta.1 bcap8]) := q8
  clear g6 q6 g7 q7 g8 q8
  go_enter Try.func15, Try.ntmps15
  go_wp2_with fail
  have T0 := two_newb w #[.int .i64 d.kind, .int .i64 d.seq, .string d.name, .int .i64 d.length, .int .i64 d.group, .int .i64 d.row, .slice ao6 d.rows.1 cap6, .slice ao7 d.data.1 cap7, .slice ao8 d.delta.1 cap8] #[.int .i64 d.kind, .int .i64 d.seq, .string d.name, .int .i64 d.length, .int .i64 d.group, .int .i64 d.row, .slice bao6 d.rows.1 bcap6, .slice bao7 d.data.1 bcap7, .slice bao8 d.delta.1 bcap8] 45 45
  refine (eqInts_is _ _ d.rows h1 h2 _ (layInts.rd_below G6.out T0.bel u1) (layInts.rd_below E6.out T0.bel u2) (Nat.le_trans u1 T0.bel.size) (Nat.le_trans u2 T0.bel.size)).mono ?_
  rintro e w1 ⟨rfl, b1⟩
  have T1 : Two w w1 #[.int .i64 d.kind, .int .i64 d.seq, .string d.name, .int .i64 d.length, .int .i64 d.group, .int .i64 d.row, .slice ao6 d.rows.1 cap6, .slice ao7 d.data.1 cap7, .slice ao8 d.delta.1 cap8] #[.int .i64 d.kind, .int .i64 d.seq, .string d.name, .int .i64 d.length, .int .i64 d.group, .int .i64 d.row, .slice bao6 d.rows.1 bcap6, .slice bao7 d.data.1 bcap7, .slice bao8 d.delta.1 bcap8] 45 45 := T0.call b1
  clear T0 b1
  have x1_7 : w1.cell? ⟨w.heap.size, 7, none⟩ = some (.slice ao7 d.data.1 cap7) := T1.b1.cell 7
  have y1_7 : w1.cell? ⟨w.heap.size + 1, 7, none⟩ = some (.slice bao7 d.data.1 bcap7) := T1.b2.cell 7
  go_wp2_with fail
  refine (eqBytes_is _ _ d.data h1 h2 _ (layBytes.rd_below G7.out T1.bel u1) (layBytes.rd_below E7.out T1.bel u2) (Nat.le_trans u1 T1.bel.size) (Nat.le_trans u2 T1.bel.size)).mono ?_
  rintro e w2 ⟨rfl, b2⟩
  have T2 : Two w w2 #[.int .i64 d.kind, .int .i64 d.seq, .string d.name, .int .i64 d.length, .int .i64 d.group, .int .i64 d.row, .slice ao6 d.rows.1 cap6, .slice ao7 d.data.1 cap7, .slice ao8 d.delta.1 cap8] #[.int .i64 d.kind, .int .i64 d.seq, .string d.name, .int .i64 d.length, .int .i64 d.group, .int .i64 d.row, .slice bao6 d.rows.1 bcap6, .slice bao7 d.data.1 bcap7, .slice bao8 d.delta.1 bcap8] 45 45 := T1.call b2
  clear T1 b2
  have x2_8 : w2.cell? ⟨w.heap.size, 8, none⟩ = some (.slice ao8 d.delta.1 cap8) := T2.b1.cell 8
  have y2_8 : w2.cell? ⟨w.heap.size + 1, 8, none⟩ = some (.slice bao8 d.delta.1 bcap8) := T2.b2.cell 8
  go_wp2_with fail
  refine (eqBytes_is _ _ d.delta h1 h2 _ (layBytes.rd_below G8.out T2.bel u1) (layBytes.rd_below E8.out T2.bel u2) (Nat.le_trans u1 T2.bel.size) (Nat.le_trans u2 T2.bel.size)).mono ?_
  rintro e w3 ⟨rfl, b3⟩
  have T3 : Two w w3 #[.int .i64 d.kind, .int .i64 d.seq, .string d.name, .int .i64 d.length, .int .i64 d.group, .int .i64 d.row, .slice ao6 d.rows.1 cap6, .slice ao7 d.data.1 cap7, .slice ao8 d.delta.1 cap8] #[.int .i64 d.kind, .int .i64 d.seq, .string d.name, .int .i64 d.length, .int .i64 d.group, .int .i64 d.row, .slice bao6 d.rows.1 bcap6, .slice bao7 d.data.1 bcap7, .slice bao8 d.delta.1 bcap8] 45 45 := T2.call b3
  clear T2 b3
  have B : Hid (Below w.heap.size w w3) := T3.bel
  clear T3
  go_wp2
  go_ret
  exact ⟨rfl, B.out⟩
set_option maxHeartbeats 4000000 in
theorem eqRecS_is : EqS (layRec.slice 45) 86 := fun v1 v2 d h1 h2 w r1 r2 u1 u2 => by
  obtain ⟨n, x⟩ := d
  obtain ⟨ao, cap, hv, hm, hc⟩ := r1
  cases hv
  obtain ⟨ao', cap', hv', hm', hc'⟩ := r2
  cases hv'
  simp only at hm hc hc'
  unfold maxLen at hm
  clear hm'
  go_enter Try.func86, Try.ntmps86
  go_wp2
  go_loopw [5] (fun i wr => ∃ k : Nat, k ≤ n ∧ i = .int .i64 k ∧ Below w.heap.size w wr) (fun i _ => n - (intOf i).toNat)
  case atStart => exact ⟨0, Nat.zero_le _, rfl, Below.refl _ _⟩
  case round =>
    obtain ⟨k, hk, rfl, hb⟩ := hrel
    by_cases hlt : k < n
    · obtain ⟨b, off, rfl, hblt, hel⟩ := hc (by omega)
      obtain ⟨b', off', rfl, hblt', hel'⟩ := hc' (by omega)
      obtain ⟨ck, hrk, hcell⟩ := elem_rd (t := 0) hel (below_drewN hb 1) u1 hblt hlt
      obtain ⟨ck', hrk', hcell'⟩ := elem_rd (t := 0) hel' (below_drewN hb 1) u2 hblt' hlt
      obtain ⟨ao6, cap6, ao7, cap7, ao8, cap8, rfl, -⟩ := Rec_rd hrk
      obtain ⟨bao6, bcap6, bao7, bcap7, bao8, bcap8, rfl, -⟩ := Rec_rd hrk'
      have c0 : wr.cell? ⟨b, off + k * 9, none⟩ = some (.int .i64 (x k).kind) := hcell 0 (by decide)
      have c1 : wr.cell? ⟨b, off + k * 9 + 1, none⟩ = some (.int .i64 (x k).seq) := hcell 1 (by decide)
      have c2 : wr.cell? ⟨b, off + k * 9 + 2, none⟩ = some (.string (x k).name) := hcell 2 (by decide)
      have c3 : wr.cell? ⟨b, off + k * 9 + 3, none⟩ = some (.int .i64 (x k).length) := hcell 3 (by decide)
      have c4 : wr.cell? ⟨b, off + k * 9 + 4, none⟩ = some (.int .i64 (x k).group) := hcell 4 (by decide)
      have c5 : wr.cell? ⟨b, off + k * 9 + 5, none⟩ = some (.int .i64 (x k).row) := hcell 5 (by decide)
      have c6 : wr.cell? ⟨b, off + k * 9 + 6, none⟩ = some (.slice ao6 (x k).rows.1 cap6) := hcell 6 (by decide)
      have c7 : wr.cell? ⟨b, off + k * 9 + 7, none⟩ = some (.slice ao7 (x k).data.1 cap7) := hcell 7 (by decide)
      have c8 : wr.cell? ⟨b, off + k * 9 + 8, none⟩ = some (.slice ao8 (x k).delta.1 cap8) := hcell 8 (by decide)
      have e0 : wr.cell? ⟨b', off' + k * 9, none⟩ = some (.int .i64 (x k).kind) := hcell' 0 (by decide)
      have e1 : wr.cell? ⟨b', off' + k * 9 + 1, none⟩ = some (.int .i64 (x k).seq) := hcell' 1 (by decide)
      have e2 : wr.cell? ⟨b', off' + k * 9 + 2, none⟩ = some (.string (x k).name) := hcell' 2 (by decide)
      have e3 : wr.cell? ⟨b', off' + k * 9 + 3, none⟩ = some (.int .i64 (x k).length) := hcell' 3 (by decide)
      have e4 : wr.cell? ⟨b', off' + k * 9 + 4, none⟩ = some (.int .i64 (x k).group) := hcell' 4 (by decide)
      have e5 : wr.cell? ⟨b', off' + k * 9 + 5, none⟩ = some (.int .i64 (x k).row) := hcell' 5 (by decide)
      have e6 : wr.cell? ⟨b', off' + k * 9 + 6, none⟩ = some (.slice bao6 (x k).rows.1 bcap6) := hcell' 6 (by decide)
      have e7 : wr.cell? ⟨b', off' + k * 9 + 7, none⟩ = some (.slice bao7 (x k).data.1 bcap7) := hcell' 7 (by decide)
      have e8 : wr.cell? ⟨b', off' + k * 9 + 8, none⟩ = some (.slice bao8 (x k).delta.1 bcap8) := hcell' 8 (by decide)
      have C1 := eqRec_is _ _ (x k) h1 h2 (wr.drewN 1) hrk hrk' (Nat.le_trans u1 hb.size) (Nat.le_trans u2 hb.size)
      clear hc hc' hel hel' hcell hcell' hrk hrk'
      go_wp2
      go_region_with (go_at_call 15; refine C1.mono ?_; rintro ee w2 ⟨rfl, hb2⟩)
      all_goals
        have R' : Below w.heap.size w w2 := hb.trans ((below_drewN (Below.refl wr.heap.size wr) 1).trans hb2 |>.mono hb.size)
        clear hb2
        go_wp2
        go_roundw
        case rel => exact ⟨k + 1, by omega, by go_num, R'⟩
        case measure => simp [intOf]; omega
    · obtain rfl : k = n := by omega
      go_wp2
      go_ret
      exact ⟨rfl, hb⟩
set_option maxHeartbeats 8000000 in
set_option maxRecDepth 20000 in
theorem eqTape_is : EqV layTape 67 := fun c1 c2 d h1 h2 w r1 r2 u1 u2 => by
  obtain ⟨ao1, cap1, rfl, g1⟩ := Tape_rd r1
  obtain ⟨bao1, bcap1, rfl, q1⟩ := Tape_rd r2
  clear r1 r2
  have G1 : Hid ((layRec.slice 45).rd w h1 d.recs [.slice ao1 d.recs.1 cap1]) := g1
  have E1 : Hid ((layRec.slice 45).rd w h2 d.recs [.slice bao1 d.recs.1 bcap1]) := q1
  clear g1 q1
  go_enter Try.func67, Try.ntmps67
  go_wp2_with fail
  have T0 := two_newb w #[.bool d.wiped, .slice ao1 d.recs.1 cap1] #[.bool d.wiped, .slice bao1 d.recs.1 bcap1] 57 57
  refine (eqRecS_is _ _ d.recs h1 h2 _ ((layRec.slice 45).rd_below G1.out T0.bel u1) ((layRec.slice 45).rd_below E1.out T0.bel u2) (Nat.le_trans u1 T0.bel.size) (Nat.le_trans u2 T0.bel.size)).mono ?_
  rintro e w1 ⟨rfl, b1⟩
  have T1 : Two w w1 #[.bool d.wiped, .slice ao1 d.recs.1 cap1] #[.bool d.wiped, .slice bao1 d.recs.1 bcap1] 57 57 := T0.call b1
  clear T0 b1
  have B : Hid (Below w.heap.size w w1) := T1.bel
  clear T1
  go_wp2
  go_ret
  exact ⟨rfl, B.out⟩
set_option maxHeartbeats 4000000 in
theorem eqTapeS_is : EqS (layTape.slice 57) 38 := fun v1 v2 d h1 h2 w r1 r2 u1 u2 => by
  obtain ⟨n, x⟩ := d
  obtain ⟨ao, cap, hv, hm, hc⟩ := r1
  cases hv
  obtain ⟨ao', cap', hv', hm', hc'⟩ := r2
  cases hv'
  simp only at hm hc hc'
  unfold maxLen at hm
  clear hm'
  go_enter Try.func38, Try.ntmps38
  go_wp2
  go_loopw [5] (fun i wr => ∃ k : Nat, k ≤ n ∧ i = .int .i64 k ∧ Below w.heap.size w wr) (fun i _ => n - (intOf i).toNat)
  case atStart => exact ⟨0, Nat.zero_le _, rfl, Below.refl _ _⟩
  case round =>
    obtain ⟨k, hk, rfl, hb⟩ := hrel
    by_cases hlt : k < n
    · obtain ⟨b, off, rfl, hblt, hel⟩ := hc (by omega)
      obtain ⟨b', off', rfl, hblt', hel'⟩ := hc' (by omega)
      obtain ⟨ck, hrk, hcell⟩ := elem_rd (t := 0) hel (below_drewN hb 1) u1 hblt hlt
      obtain ⟨ck', hrk', hcell'⟩ := elem_rd (t := 0) hel' (below_drewN hb 1) u2 hblt' hlt
      obtain ⟨ao1, cap1, rfl, -⟩ := Tape_rd hrk
      obtain ⟨bao1, bcap1, rfl, -⟩ := Tape_rd hrk'
      have c0 : wr.cell? ⟨b, off + k * 2, none⟩ = some (.bool (x k).wiped) := hcell 0 (by decide)
      have c1 : wr.cell? ⟨b, off + k * 2 + 1, none⟩ = some (.slice ao1 (x k).recs.1 cap1) := hcell 1 (by decide)
      have e0 : wr.cell? ⟨b', off' + k * 2, none⟩ = some (.bool (x k).wiped) := hcell' 0 (by decide)
      have e1 : wr.cell? ⟨b', off' + k * 2 + 1, none⟩ = some (.slice bao1 (x k).recs.1 bcap1) := hcell' 1 (by decide)
      have C1 := eqTape_is _ _ (x k) h1 h2 (wr.drewN 1) hrk hrk' (Nat.le_trans u1 hb.size) (Nat.le_trans u2 hb.size)
      clear hc hc' hel hel' hcell hcell' hrk hrk'
      go_wp2
      go_region_with (go_at_call 67; refine C1.mono ?_; rintro ee w2 ⟨rfl, hb2⟩)
      all_goals
        have R' : Below w.heap.size w w2 := hb.trans ((below_drewN (Below.refl wr.heap.size wr) 1).trans hb2 |>.mono hb.size)
        clear hb2
        go_wp2
        go_roundw
        case rel => exact ⟨k + 1, by omega, by go_num, R'⟩
        case measure => simp [intOf]; omega
    · obtain rfl : k = n := by omega
      go_wp2
      go_ret
      exact ⟨rfl, hb⟩
end Go.Proofs.Ytgpglgchbimmaaa

namespace Go.Proofs.Ytgpglgchbimmaaa
open Go.RowKit F256
set_option linter.unusedVariables false
set_option maxHeartbeats 2000000 in
theorem eqShape_any (s : Nat → Int) (w : World) :
    Calls Try.prog 35 #[shapeV s, shapeV s] w fun e w' => e = .returned (.bool true) ∧ Below w.heap.size w w' := by
  unfold shapeV
  go_enter Try.func35, Try.ntmps35
  go_wp2
  go_ret
  exact ⟨rfl, ((Below.refl _ _).alloc (Nat.le_refl _) _).alloc (by simp) _⟩
end Go.Proofs.Ytgpglgchbimmaaa

namespace Go.Proofs.Ytgpglgchbimmaaa
open Go.RowKit F256
set_option linter.unusedVariables false
set_option linter.unusedSimpArgs false
set_option maxHeartbeats 8000000 in
set_option maxRecDepth 20000 in
theorem eqWorld_is : EqV layWorld 9 := fun c1 c2 d h1 h2 w r1 r2 u1 u2 => by
  obtain ⟨ao1, cap1, ao2, cap2, ao3, cap3, rfl, g1, g2, g3, -⟩ := World_rd r1
  obtain ⟨bao1, bcap1, bao2, bcap2, bao3, bcap3, rfl, q1, q2, q3, -⟩ := World_rd r2
  clear r1 r2
  have G1 : Hid (((layDrive.slice 86).slice 83).rd w h1 d.groups [.slice ao1 d.groups.1 cap1]) := g1
  have E1 : Hid (((layDrive.slice 86).slice 83).rd w h2 d.groups [.slice bao1 d.groups.1 bcap1]) := q1
  have G2 : Hid (layInts.rd w h1 d.on [.slice ao2 d.on.1 cap2]) := g2
  have E2 : Hid (layInts.rd w h2 d.on [.slice bao2 d.on.1 bcap2]) := q2
  have G3 : Hid ((layTape.slice 57).rd w h1 d.tapes [.slice ao3 d.tapes.1 cap3]) := g3
  have E3 : Hid ((layTape.slice 57).rd w h2 d.tapes [.slice bao3 d.tapes.1 bcap3]) := q3
  clear g1 q1 g2 q2 g3 q3
  go_enter Try.func9, Try.ntmps9
  go_wp2_with fail
  have T0 := two_newb w #[.int .i64 (d.shape 0), .int .i64 (d.shape 1), .int .i64 (d.shape 2), .int .i64 (d.shape 3), .int .i64 (d.shape 4), .int .i64 (d.shape 5), .int .i64 (d.shape 6), .int .i64 (d.shape 7), .int .i64 (d.shape 8), .slice ao1 d.groups.1 cap1, .slice ao2 d.on.1 cap2, .slice ao3 d.tapes.1 cap3, .int .i64 d.writes, .int .i64 d.stop, .bool d.down] #[.int .i64 (d.shape 0), .int .i64 (d.shape 1), .int .i64 (d.shape 2), .int .i64 (d.shape 3), .int .i64 (d.shape 4), .int .i64 (d.shape 5), .int .i64 (d.shape 6), .int .i64 (d.shape 7), .int .i64 (d.shape 8), .slice bao1 d.groups.1 bcap1, .slice bao2 d.on.1 bcap2, .slice bao3 d.tapes.1 bcap3, .int .i64 d.writes, .int .i64 d.stop, .bool d.down] 35 35
  refine (eqShape_any d.shape _).mono ?_
  rintro e w1 ⟨rfl, b1⟩
  have T1 : Two w w1 #[.int .i64 (d.shape 0), .int .i64 (d.shape 1), .int .i64 (d.shape 2), .int .i64 (d.shape 3), .int .i64 (d.shape 4), .int .i64 (d.shape 5), .int .i64 (d.shape 6), .int .i64 (d.shape 7), .int .i64 (d.shape 8), .slice ao1 d.groups.1 cap1, .slice ao2 d.on.1 cap2, .slice ao3 d.tapes.1 cap3, .int .i64 d.writes, .int .i64 d.stop, .bool d.down] #[.int .i64 (d.shape 0), .int .i64 (d.shape 1), .int .i64 (d.shape 2), .int .i64 (d.shape 3), .int .i64 (d.shape 4), .int .i64 (d.shape 5), .int .i64 (d.shape 6), .int .i64 (d.shape 7), .int .i64 (d.shape 8), .slice bao1 d.groups.1 bcap1, .slice bao2 d.on.1 bcap2, .slice bao3 d.tapes.1 bcap3, .int .i64 d.writes, .int .i64 d.stop, .bool d.down] 35 35 := T0.call b1
  clear T0 b1
  have x1_9 : w1.cell? ⟨w.heap.size, 9, none⟩ = some (.slice ao1 d.groups.1 cap1) := T1.b1.cell 9
  have y1_9 : w1.cell? ⟨w.heap.size + 1, 9, none⟩ = some (.slice bao1 d.groups.1 bcap1) := T1.b2.cell 9
  go_wp2_with fail
  refine (eqDriveSS_is _ _ d.groups h1 h2 _ (((layDrive.slice 86).slice 83).rd_below G1.out T1.bel u1) (((layDrive.slice 86).slice 83).rd_below E1.out T1.bel u2) (Nat.le_trans u1 T1.bel.size) (Nat.le_trans u2 T1.bel.size)).mono ?_
  rintro e w2 ⟨rfl, b2⟩
  have T2 : Two w w2 #[.int .i64 (d.shape 0), .int .i64 (d.shape 1), .int .i64 (d.shape 2), .int .i64 (d.shape 3), .int .i64 (d.shape 4), .int .i64 (d.shape 5), .int .i64 (d.shape 6), .int .i64 (d.shape 7), .int .i64 (d.shape 8), .slice ao1 d.groups.1 cap1, .slice ao2 d.on.1 cap2, .slice ao3 d.tapes.1 cap3, .int .i64 d.writes, .int .i64 d.stop, .bool d.down] #[.int .i64 (d.shape 0), .int .i64 (d.shape 1), .int .i64 (d.shape 2), .int .i64 (d.shape 3), .int .i64 (d.shape 4), .int .i64 (d.shape 5), .int .i64 (d.shape 6), .int .i64 (d.shape 7), .int .i64 (d.shape 8), .slice bao1 d.groups.1 bcap1, .slice bao2 d.on.1 bcap2, .slice bao3 d.tapes.1 bcap3, .int .i64 d.writes, .int .i64 d.stop, .bool d.down] 35 35 := T1.call b2
  clear T1 b2
  have x2_10 : w2.cell? ⟨w.heap.size, 10, none⟩ = some (.slice ao2 d.on.1 cap2) := T2.b1.cell 10
  have y2_10 : w2.cell? ⟨w.heap.size + 1, 10, none⟩ = some (.slice bao2 d.on.1 bcap2) := T2.b2.cell 10
  go_wp2_with fail
  refine (eqInts_is _ _ d.on h1 h2 _ (layInts.rd_below G2.out T2.bel u1) (layInts.rd_below E2.out T2.bel u2) (Nat.le_trans u1 T2.bel.size) (Nat.le_trans u2 T2.bel.size)).mono ?_
  rintro e w3 ⟨rfl, b3⟩
  have T3 : Two w w3 #[.int .i64 (d.shape 0), .int .i64 (d.shape 1), .int .i64 (d.shape 2), .int .i64 (d.shape 3), .int .i64 (d.shape 4), .int .i64 (d.shape 5), .int .i64 (d.shape 6), .int .i64 (d.shape 7), .int .i64 (d.shape 8), .slice ao1 d.groups.1 cap1, .slice ao2 d.on.1 cap2, .slice ao3 d.tapes.1 cap3, .int .i64 d.writes, .int .i64 d.stop, .bool d.down] #[.int .i64 (d.shape 0), .int .i64 (d.shape 1), .int .i64 (d.shape 2), .int .i64 (d.shape 3), .int .i64 (d.shape 4), .int .i64 (d.shape 5), .int .i64 (d.shape 6), .int .i64 (d.shape 7), .int .i64 (d.shape 8), .slice bao1 d.groups.1 bcap1, .slice bao2 d.on.1 bcap2, .slice bao3 d.tapes.1 bcap3, .int .i64 d.writes, .int .i64 d.stop, .bool d.down] 35 35 := T2.call b3
  clear T2 b3
  have x3_11 : w3.cell? ⟨w.heap.size, 11, none⟩ = some (.slice ao3 d.tapes.1 cap3) := T3.b1.cell 11
  have y3_11 : w3.cell? ⟨w.heap.size + 1, 11, none⟩ = some (.slice bao3 d.tapes.1 bcap3) := T3.b2.cell 11
  go_wp2_with fail
  refine (eqTapeS_is _ _ d.tapes h1 h2 _ ((layTape.slice 57).rd_below G3.out T3.bel u1) ((layTape.slice 57).rd_below E3.out T3.bel u2) (Nat.le_trans u1 T3.bel.size) (Nat.le_trans u2 T3.bel.size)).mono ?_
  rintro e w4 ⟨rfl, b4⟩
  have T4 : Two w w4 #[.int .i64 (d.shape 0), .int .i64 (d.shape 1), .int .i64 (d.shape 2), .int .i64 (d.shape 3), .int .i64 (d.shape 4), .int .i64 (d.shape 5), .int .i64 (d.shape 6), .int .i64 (d.shape 7), .int .i64 (d.shape 8), .slice ao1 d.groups.1 cap1, .slice ao2 d.on.1 cap2, .slice ao3 d.tapes.1 cap3, .int .i64 d.writes, .int .i64 d.stop, .bool d.down] #[.int .i64 (d.shape 0), .int .i64 (d.shape 1), .int .i64 (d.shape 2), .int .i64 (d.shape 3), .int .i64 (d.shape 4), .int .i64 (d.shape 5), .int .i64 (d.shape 6), .int .i64 (d.shape 7), .int .i64 (d.shape 8), .slice bao1 d.groups.1 bcap1, .slice bao2 d.on.1 bcap2, .slice bao3 d.tapes.1 bcap3, .int .i64 d.writes, .int .i64 d.stop, .bool d.down] 35 35 := T3.call b4
  clear T3 b4
  have x4_12 : w4.cell? ⟨w.heap.size, 12, none⟩ = some (.int .i64 d.writes) := T4.b1.cell 12
  have y4_12 : w4.cell? ⟨w.heap.size + 1, 12, none⟩ = some (.int .i64 d.writes) := T4.b2.cell 12
  have x4_13 : w4.cell? ⟨w.heap.size, 13, none⟩ = some (.int .i64 d.stop) := T4.b1.cell 13
  have y4_13 : w4.cell? ⟨w.heap.size + 1, 13, none⟩ = some (.int .i64 d.stop) := T4.b2.cell 13
  have x4_14 : w4.cell? ⟨w.heap.size, 14, none⟩ = some (.bool d.down) := T4.b1.cell 14
  have y4_14 : w4.cell? ⟨w.heap.size + 1, 14, none⟩ = some (.bool d.down) := T4.b2.cell 14
  have B : Hid (Below w.heap.size w w4) := T4.bel
  clear T4
  go_wp2
  go_ret
  exact ⟨rfl, B.out⟩
end Go.Proofs.Ytgpglgchbimmaaa

namespace Go.Proofs.Ytgpglgchbimmaaa
open Go.RowKit F256
set_option linter.unusedVariables false
set_option linter.unusedSimpArgs false
set_option maxHeartbeats 4000000 in
theorem szBlock_is : SzV layBlock szBlockD 94 := fun cs d hi L w r hhi hL => by
  obtain ⟨ao1, cap1, rfl, r1, k0⟩ := Block_rd r
  clear r
  unfold szBlockD
  have R1 : Hid (layBytes.rd w hi d.bytes [.slice ao1 d.bytes.1 cap1]) := r1
  clear r1
  go_enter Try.func94, Try.ntmps94
  go_wp2_with fail
  have T0 := one_new w #[.int .i64 d.stamp, .slice ao1 d.bytes.1 cap1] 119
  refine (szBytes_is _ d.bytes hi L _ (layBytes.rd_below R1.out T0.bel hhi) (Nat.le_trans hhi T0.bel.size) (by omega)).mono ?_
  rintro e w1 ⟨y1, rfl, s1, b1⟩
  have T1 : One w w1 #[.int .i64 d.stamp, .slice ao1 d.bytes.1 cap1] 119 := T0.call b1
  have HB1 : Hid (Below w.heap.size w w1) := T1.bel
  rcases s1 with rfl | ⟨l1, hy1⟩
  · clear T1 T0 b1
    go_wp2
    go_ret
    exact ⟨-1, rfl, .inl rfl, HB1.out⟩
  obtain ⟨M1, hM1⟩ : ∃ M : Nat, M + lenD d.bytes = L := ⟨L - lenD d.bytes, by omega⟩
  obtain rfl : y1 = ((M1 : Nat) : Int) := by omega
  have HM1 : Hid (M1 + lenD d.bytes = L) := hM1
  have hML1 : M1 ≤ L := by omega
  have hz1 : ¬ ((M1 : Int) < 0) := by omega
  clear hM1 hy1 l1 T0 b1
  clear T1
  go_wp2
  go_ret
  exact ⟨M1, rfl, .inr ⟨by have e0 := HM1.out; omega, by have e0 := HM1.out; omega⟩, HB1.out⟩
set_option maxHeartbeats 4000000 in
theorem szBlockS_is : SzS (layBlock.slice 88) (szSl szBlockD) 90 := fun v d hi L w h hhi hL => by
  obtain ⟨n, x⟩ := d
  obtain ⟨ao, cap, hv, hm, hc⟩ := h
  cases hv
  simp only at hm hc
  unfold maxLen at hm
  by_cases hnL : L < n
  · clear hc
    have hz : (L : Int) - (n : Int) < 0 := by omega
    go_enter Try.func90, Try.ntmps90
    go_wp2
    go_ret
    exact ⟨-1, rfl, .inl rfl, Below.refl _ _⟩
  · have hz : ¬ (L : Int) - (n : Int) < 0 := by omega
    go_enter Try.func90, Try.ntmps90
    go_wp2
    go_loopw [1, 5] (fun y i wr => ∃ k M : Nat, k ≤ n ∧ i = .int .i64 k ∧ y = .int .i64 M ∧ M + n + sumN (fun i => szBlockD (x i)) k = L ∧ Below w.heap.size w wr) (fun _ i _ => n - (intOf i).toNat)
    case atStart => exact ⟨0, L - n, Nat.zero_le _, rfl, val_eq (by omega), by simp [sumN]; omega, Below.refl _ _⟩
    case round =>
      obtain ⟨k, M, hk, rfl, rfl, hM, hb⟩ := hrel
      have HM : Hid (M + n + sumN (fun i => szBlockD (x i)) k = L) := hM
      have hML : M ≤ L := by omega
      clear hM
      by_cases hlt : k < n
      · obtain ⟨b, off, rfl, hblt, hel⟩ := hc (by omega)
        obtain ⟨ck, hrk, hcell⟩ := elem_rd (t := 0) hel hb hhi hblt hlt
        obtain ⟨ao1, cap1, rfl, -⟩ := Block_rd hrk
        have c0 : wr.cell? ⟨b, off + k * 2, none⟩ = some (.int .i64 (x k).stamp) := hcell 0 (by decide)
        have c1 : wr.cell? ⟨b, off + k * 2 + 1, none⟩ = some (.slice ao1 (x k).bytes.1 cap1) := hcell 1 (by decide)
        clear hc hel hcell
        go_wp2_with fail
        refine (szBlock_is _ (x k) hi M _ hrk (Nat.le_trans hhi hb.size) (by omega)).mono ?_
        rintro e w2 ⟨y, rfl, s, b2⟩
        have HB : Hid (Below w.heap.size w w2) := hb.trans (b2.mono hb.size)
        clear b2 hb hrk
        rcases s with rfl | ⟨l1, hy⟩
        · go_wp2
          go_ret
          exact ⟨-1, rfl, .inl rfl, HB.out⟩
        · obtain ⟨M', hM'⟩ : ∃ M' : Nat, M' + szBlockD (x k) = M := ⟨M - szBlockD (x k), by omega⟩
          obtain rfl : y = (M' : Int) := by omega
          have HM' : Hid (M' + szBlockD (x k) = M) := hM'
          have hz2 : ¬ ((M' : Int) < 0) := by omega
          clear hM' hy l1
          go_wp2_with fail
          go_roundw
          case rel => exact ⟨k + 1, M', by omega, by go_num, rfl, by
                have e1 := HM.out
                have e2 := HM'.out
                have e3 : sumN (fun i => szBlockD (x i)) (k + 1) = sumN (fun i => szBlockD (x i)) k + szBlockD (x k) := rfl
                omega, HB.out⟩
          case measure => simp [intOf]; omega
      · obtain rfl : k = n := by omega
        go_wp2
        go_ret
        exact ⟨M, rfl, .inr ⟨by
          have e1 := HM.out
          show k + sumN (fun i => szBlockD (x i)) k ≤ L
          omega, by
          have e1 := HM.out
          show (M : Int) = (L : Int) - ((k + sumN (fun i => szBlockD (x i)) k : Nat) : Int)
          omega⟩, hb⟩
set_option maxHeartbeats 4000000 in
theorem szDrive_is : SzV layDrive szDriveD 78 := fun cs d hi L w r hhi hL => by
  obtain ⟨ao1, cap1, rfl, r1⟩ := Drive_rd r
  clear r
  unfold szDriveD
  have R1 : Hid ((layBlock.slice 88).rd w hi d.blocks [.slice ao1 d.blocks.1 cap1]) := r1
  clear r1
  go_enter Try.func78, Try.ntmps78
  go_wp2_with fail
  have T0 := one_new w #[.bool d.wiped, .slice ao1 d.blocks.1 cap1] 103
  refine (szBlockS_is _ d.blocks hi L _ ((layBlock.slice 88).rd_below R1.out T0.bel hhi) (Nat.le_trans hhi T0.bel.size) (by omega)).mono ?_
  rintro e w1 ⟨y1, rfl, s1, b1⟩
  have T1 : One w w1 #[.bool d.wiped, .slice ao1 d.blocks.1 cap1] 103 := T0.call b1
  have HB1 : Hid (Below w.heap.size w w1) := T1.bel
  rcases s1 with rfl | ⟨l1, hy1⟩
  · clear T1 T0 b1
    go_wp2
    go_ret
    exact ⟨-1, rfl, .inl rfl, HB1.out⟩
  obtain ⟨M1, hM1⟩ : ∃ M : Nat, M + (szSl szBlockD) d.blocks = L := ⟨L - (szSl szBlockD) d.blocks, by omega⟩
  obtain rfl : y1 = ((M1 : Nat) : Int) := by omega
  have HM1 : Hid (M1 + (szSl szBlockD) d.blocks = L) := hM1
  have hML1 : M1 ≤ L := by omega
  have hz1 : ¬ ((M1 : Int) < 0) := by omega
  clear hM1 hy1 l1 T0 b1
  clear T1
  go_wp2
  go_ret
  exact ⟨M1, rfl, .inr ⟨by have e0 := HM1.out; omega, by have e0 := HM1.out; omega⟩, HB1.out⟩
set_option maxHeartbeats 4000000 in
theorem szDriveS_is : SzS (layDrive.slice 86) (szSl szDriveD) 52 := fun v d hi L w h hhi hL => by
  obtain ⟨n, x⟩ := d
  obtain ⟨ao, cap, hv, hm, hc⟩ := h
  cases hv
  simp only at hm hc
  unfold maxLen at hm
  by_cases hnL : L < n
  · clear hc
    have hz : (L : Int) - (n : Int) < 0 := by omega
    go_enter Try.func52, Try.ntmps52
    go_wp2
    go_ret
    exact ⟨-1, rfl, .inl rfl, Below.refl _ _⟩
  · have hz : ¬ (L : Int) - (n : Int) < 0 := by omega
    go_enter Try.func52, Try.ntmps52
    go_wp2
    go_loopw [1, 5] (fun y i wr => ∃ k M : Nat, k ≤ n ∧ i = .int .i64 k ∧ y = .int .i64 M ∧ M + n + sumN (fun i => szDriveD (x i)) k = L ∧ Below w.heap.size w wr) (fun _ i _ => n - (intOf i).toNat)
    case atStart => exact ⟨0, L - n, Nat.zero_le _, rfl, val_eq (by omega), by simp [sumN]; omega, Below.refl _ _⟩
    case round =>
      obtain ⟨k, M, hk, rfl, rfl, hM, hb⟩ := hrel
      have HM : Hid (M + n + sumN (fun i => szDriveD (x i)) k = L) := hM
      have hML : M ≤ L := by omega
      clear hM
      by_cases hlt : k < n
      · obtain ⟨b, off, rfl, hblt, hel⟩ := hc (by omega)
        obtain ⟨ck, hrk, hcell⟩ := elem_rd (t := 0) hel hb hhi hblt hlt
        obtain ⟨ao1, cap1, rfl, -⟩ := Drive_rd hrk
        have c0 : wr.cell? ⟨b, off + k * 2, none⟩ = some (.bool (x k).wiped) := hcell 0 (by decide)
        have c1 : wr.cell? ⟨b, off + k * 2 + 1, none⟩ = some (.slice ao1 (x k).blocks.1 cap1) := hcell 1 (by decide)
        clear hc hel hcell
        go_wp2_with fail
        refine (szDrive_is _ (x k) hi M _ hrk (Nat.le_trans hhi hb.size) (by omega)).mono ?_
        rintro e w2 ⟨y, rfl, s, b2⟩
        have HB : Hid (Below w.heap.size w w2) := hb.trans (b2.mono hb.size)
        clear b2 hb hrk
        rcases s with rfl | ⟨l1, hy⟩
        · go_wp2
          go_ret
          exact ⟨-1, rfl, .inl rfl, HB.out⟩
        · obtain ⟨M', hM'⟩ : ∃ M' : Nat, M' + szDriveD (x k) = M := ⟨M - szDriveD (x k), by omega⟩
          obtain rfl : y = (M' : Int) := by omega
          have HM' : Hid (M' + szDriveD (x k) = M) := hM'
          have hz2 : ¬ ((M' : Int) < 0) := by omega
          clear hM' hy l1
          go_wp2_with fail
          go_roundw
          case rel => exact ⟨k + 1, M', by omega, by go_num, rfl, by
                have e1 := HM.out
                have e2 := HM'.out
                have e3 : sumN (fun i => szDriveD (x i)) (k + 1) = sumN (fun i => szDriveD (x i)) k + szDriveD (x k) := rfl
                omega, HB.out⟩
          case measure => simp [intOf]; omega
      · obtain rfl : k = n := by omega
        go_wp2
        go_ret
        exact ⟨M, rfl, .inr ⟨by
          have e1 := HM.out
          show k + sumN (fun i => szDriveD (x i)) k ≤ L
          omega, by
          have e1 := HM.out
          show (M : Int) = (L : Int) - ((k + sumN (fun i => szDriveD (x i)) k : Nat) : Int)
          omega⟩, hb⟩
set_option maxHeartbeats 4000000 in
theorem szDriveSS_is : SzS ((layDrive.slice 86).slice 83) (szSl (szSl szDriveD)) 16 := fun v d hi L w h hhi hL => by
  obtain ⟨n, x⟩ := d
  obtain ⟨ao, cap, hv, hm, hc⟩ := h
  cases hv
  simp only at hm hc
  unfold maxLen at hm
  by_cases hnL : L < n
  · clear hc
    have hz : (L : Int) - (n : Int) < 0 := by omega
    go_enter Try.func16, Try.ntmps16
    go_wp2
    go_ret
    exact ⟨-1, rfl, .inl rfl, Below.refl _ _⟩
  · have hz : ¬ (L : Int) - (n : Int) < 0 := by omega
    go_enter Try.func16, Try.ntmps16
    go_wp2
    go_loopw [1, 5] (fun y i wr => ∃ k M : Nat, k ≤ n ∧ i = .int .i64 k ∧ y = .int .i64 M ∧ M + n + sumN (fun i => (szSl szDriveD) (x i)) k = L ∧ Below w.heap.size w wr) (fun _ i _ => n - (intOf i).toNat)
    case atStart => exact ⟨0, L - n, Nat.zero_le _, rfl, val_eq (by omega), by simp [sumN]; omega, Below.refl _ _⟩
    case round =>
      obtain ⟨k, M, hk, rfl, rfl, hM, hb⟩ := hrel
      have HM : Hid (M + n + sumN (fun i => (szSl szDriveD) (x i)) k = L) := hM
      have hML : M ≤ L := by omega
      clear hM
      by_cases hlt : k < n
      · obtain ⟨b, off, rfl, hblt, hel⟩ := hc (by omega)
        obtain ⟨ck, hrk, hcell⟩ := elem_rd (t := 0) hel hb hhi hblt hlt
        obtain ⟨ao9, cap9, rfl⟩ := sl_form hrk
        have c0 : wr.cell? ⟨b, off + k, none⟩ = some (.slice ao9 (x k).1 cap9) := by
          have h := hcell 0 (show 0 < 1 by decide)
          rw [show (layDrive.slice 86).sz = 1 from rfl, Nat.mul_one, Nat.add_zero] at h
          exact h
        clear hc hel hcell
        go_wp2_with fail
        refine (szDriveS_is _ (x k) hi M _ hrk (Nat.le_trans hhi hb.size) (by omega)).mono ?_
        rintro e w2 ⟨y, rfl, s, b2⟩
        have HB : Hid (Below w.heap.size w w2) := hb.trans (b2.mono hb.size)
        clear b2 hb hrk
        rcases s with rfl | ⟨l1, hy⟩
        · go_wp2
          go_ret
          exact ⟨-1, rfl, .inl rfl, HB.out⟩
        · obtain ⟨M', hM'⟩ : ∃ M' : Nat, M' + (szSl szDriveD) (x k) = M := ⟨M - (szSl szDriveD) (x k), by omega⟩
          obtain rfl : y = (M' : Int) := by omega
          have HM' : Hid (M' + (szSl szDriveD) (x k) = M) := hM'
          have hz2 : ¬ ((M' : Int) < 0) := by omega
          clear hM' hy l1
          go_wp2_with fail
          go_roundw
          case rel => exact ⟨k + 1, M', by omega, by go_num, rfl, by
                have e1 := HM.out
                have e2 := HM'.out
                have e3 : sumN (fun i => (szSl szDriveD) (x i)) (k + 1) = sumN (fun i => (szSl szDriveD) (x i)) k + (szSl szDriveD) (x k) := rfl
                omega, HB.out⟩
          case measure => simp [intOf]; omega
      · obtain rfl : k = n := by omega
        go_wp2
        go_ret
        exact ⟨M, rfl, .inr ⟨by
          have e1 := HM.out
          show k + sumN (fun i => (szSl szDriveD) (x i)) k ≤ L
          omega, by
          have e1 := HM.out
          show (M : Int) = (L : Int) - ((k + sumN (fun i => (szSl szDriveD) (x i)) k : Nat) : Int)
          omega⟩, hb⟩
end Go.Proofs.Ytgpglgchbimmaaa
