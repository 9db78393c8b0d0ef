/- Walks of the specification's l4Split, SplitObject and JoinObject. -/
import Derived.Test.YtdnankopblkblabWParts
import Derived.Test.YtdnankopblkblabWAppendZ
import Derived.Test.YtdnankopblkblabWRowB
namespace Go.Proofs.Ytdnankopblkblab
open Go.RowKit F256
set_option linter.unusedVariables false
set_option linter.unusedSimpArgs false

/-- how many rows n bytes take -/
def partN (D n : Nat) : Nat := (n + 4 * D - 1) / (4 * D)
/-- the bytes in rows, noughts behind them -/
def splitN (D n : Nat) (f : Nat → Nat) : Mat := fun k t => if 4 * D * k + t < n then f (4 * D * k + t) else 0
/-- the bytes with noughts behind them -/
def padZ (n : Nat) (f : Nat → Nat) : Nat → Nat := fun i => if i < n then f i else 0
theorem part_bounds {D n : Nat} (h1 : 1 ≤ D) (h3 : D ≤ 3) (hn : 1 ≤ n) (hn2 : n ≤ 12 * D) : 1 ≤ partN D n ∧ partN D n ≤ 3 ∧ n ≤ partN D n * (4 * D) ∧ partN D n * (4 * D) ≤ 36 := by
  unfold partN
  rcases (by omega : D = 1 ∨ D = 2 ∨ D = 3) with rfl | rfl | rfl <;> omega
theorem part_int {D n : Nat} (h1 : 1 ≤ D) : ((n : Int) + (D : Int) * 4 - 1) / ((D : Int) * 4) = ((partN D n : Nat) : Int) := by
  unfold partN
  rw [Int.natCast_ediv]
  congr 1 <;> omega
/-- the block that a Shape comes in by -/
abbrev shapeC (s : Nat → Int) : Array Value := #[.int .i64 (s 0), .int .i64 (s 1), .int .i64 (s 2), .int .i64 (s 3), .int .i64 (s 4), .int .i64 (s 5), .int .i64 (s 6), .int .i64 (s 7), .int .i64 (s 8)]
theorem l4Wide_ex (s : Nat → Int) (W : Nat) (hW : s 2 * 4 = (W : Int)) (h1 : 1 ≤ s 2) (h2 : s 2 ≤ 1000) (w : World) :
    Calls Try.prog 29 #[.agg (shapeC s)] w fun e w' => e = .returned (.int .i64 (W : Int)) ∧ w' = w.alloc (.cells (shapeC s) 25) := by
  obtain ⟨a2, h0⟩ : ∃ a, a = s 2 := ⟨_, rfl⟩
  unfold shapeC
  rw [← h0] at h1 h2 hW ⊢
  clear h0
  go_enter Try.func29, Try.ntmps29
  go_wp2
  go_ret
  exact ⟨rfl, rfl⟩

theorem below_heap {B : Nat} {w V W : World} (h : Below B w V) (h1 : W.os = V.os) (h2 : W.tape = V.tape) (h3 : W.output = V.output) (h4 : W.heap = V.heap) : Below B w W :=
  ⟨h1.trans h.os, h2.trans h.tape, h3.trans h.output, by rw [h4]; exact h.size, fun k hk => by rw [h4]; exact h.block k hk⟩

/-- list[a:b] -/
theorem run_slice_mid (gr N cap a b c : Nat) (h1 : a < cap) (h2 : a ≤ b) (h3 : b ≤ cap) (hc : c = b - a) (w : World) :
    (Instr.slice 22 (.slice (some ⟨gr, 0, none⟩) N cap) (some (.int .i64 (a : Int))) (some (.int .i64 (b : Int))) none).run Try.prog w = .ok (.slice (some ⟨gr, a, none⟩) c (cap - a)) w := by
  have e1 : (0 : Int) ≤ (b : Int) ∧ (b : Int) ≤ (cap : Int) := by omega
  have e3 : (0 : Int) ≤ (a : Int) ∧ (a : Int) ≤ (b : Int) := by omega
  have e4 : ¬ cap = a := by omega
  have e5 : a ≤ b := h2
  have e6 : b ≤ cap := h3
  simp [Instr.slice, run_underlying Try.underlying22, Instr.sliceBounds, Instr.sliceBound, asIntOf, go_sem, e1, e3, e4, e5, e6, hc]
theorem own_lits (w : World) (o1 o2 : Obj) (g : Nat → Nat) (p : Nat) (V : World) (h : (V = ((w.alloc (.cells #[] 5)).alloc o1).alloc o2 ∧ p = w.heap.size) ∨ (V = ((w.alloc o1).alloc (.cells #[] 5)).alloc o2 ∧ p = w.heap.size + 1) ∨ (V = ((w.alloc o1).alloc o2).alloc (.cells #[] 5) ∧ p = w.heap.size + 2)) (W : World) (hW : W.heap = V.heap) :
    Own W w.heap.size (w.heap.size + 3) (.slice (some ⟨p, 0, none⟩) 0 0) 0 g := by
  rcases h with ⟨rfl, rfl⟩ | ⟨rfl, rfl⟩ | ⟨rfl, rfl⟩
  · exact ((((own_lit0 w g).alloc o1).alloc o2).weaken (Nat.le_refl _) (by simp)).kept fun q hq => by rw [hW]
  · have h5 := ((own_lit0 (w.alloc o1) g).alloc o2).weaken (lo' := w.heap.size) (hi' := w.heap.size + 3) (by simp) (by simp)
    have e6 : (w.alloc o1).heap.size = w.heap.size + 1 := by simp
    rw [e6] at h5
    exact h5.kept fun q hq => by rw [hW]
  · have h5 := (own_lit0 ((w.alloc o1).alloc o2) g).weaken (lo' := w.heap.size) (hi' := w.heap.size + 3) (by simp; omega) (by simp)
    have e6 : ((w.alloc o1).alloc o2).heap.size = w.heap.size + 2 := by simp
    rw [e6] at h5
    exact h5.kept fun q hq => by rw [hW]
theorem below3 (w : World) (o1 o2 o3 : Obj) (W : World) (h1 : W.os = w.os) (h2 : W.tape = w.tape) (h3 : W.output = w.output) (h4 : W.heap = (((w.alloc o1).alloc o2).alloc o3).heap) : Below w.heap.size w W :=
  below_heap ((((Below.refl w.heap.size w).alloc (Nat.le_refl _) o1).alloc (by simp) o2).alloc (by simp; omega) o3) h1 h2 h3 h4

set_option maxHeartbeats 8000000 in
theorem l4Split_any (s : Nat → Int) (D n : Nat) (hD : s 2 = (D : Int)) (hD1 : 1 ≤ D) (hD3 : D ≤ 3) (vb : Value) (f : Nat → Nat) (h1 : Nat) (w : World) (rb : Rd w h1 vb n f) (hh : h1 ≤ w.heap.size) (hn1 : 1 ≤ n) (hn2 : n ≤ 12 * D) :
    Calls Try.prog 18 #[shapeV s, vb] w fun e w' => ∃ v', e = .returned v' ∧ OwnM w' w.heap.size w'.heap.size v' (partN D n) (fun _ => 4 * D) (splitN D n f) ∧ Below w.heap.size w w' := by
  have HRB : Hid (Rd w h1 vb n f) := rb
  obtain ⟨aob, capb, rfl, hmb, hcb⟩ := rb
  clear hmb hcb
  obtain ⟨W, hW⟩ : ∃ W, W = 4 * D := ⟨_, rfl⟩
  have HW : Hid (W = 4 * D) := hW
  have hWs : s 2 * 4 = (W : Int) := by rw [hD]; omega
  have CP : ∀ w, Calls Try.prog 28 #[shapeV s, .int .i64 (n : Int)] w fun e w' => e = .returned (.int .i64 ((partN D n : Nat) : Int)) ∧ Below w.heap.size w w' := fun w => (l4Parts_any s (by omega) (by omega) (n : Int) (by omega) (by omega) w).mono fun e w' h => by
    rw [hD, part_int hD1] at h
    exact h
  have CW := l4Wide_ex s W hWs (by omega) (by omega)
  obtain ⟨p1, p2, p3, p4⟩ := part_bounds hD1 hD3 hn1 hn2
  obtain ⟨P, hP⟩ : ∃ P, P = partN D n := ⟨_, rfl⟩
  have HP : Hid (P = partN D n) := hP
  rw [← hP, ← hW] at p3 p4
  rw [← hP] at p1 p2 CP ⊢
  obtain ⟨T, hT⟩ : ∃ T, T = P * W := ⟨_, rfl⟩
  have HT : Hid (T = P * W) := hT
  rw [← hT] at p3 p4
  have hPT : (P : Int) * (W : Int) = (T : Int) := by rw [hT]; simp
  obtain ⟨Z, hZ⟩ : ∃ Z, n + Z = T := ⟨T - n, by omega⟩
  have HZ : Hid (n + Z = T) := hZ
  have hTZ : (T : Int) - (n : Int) = (Z : Int) := by omega
  have hW12 : W ≤ 12 ∧ 4 ≤ W := by omega
  have wT : IntKind.i64.wrap (T : Int) = (T : Int) := by rw [IntKind.wrap_i64]; omega
  have wZ : IntKind.i64.wrap (Z : Int) = (Z : Int) := by rw [IntKind.wrap_i64]; omega
  clear hW hP hT hZ hWs hD
  unfold shapeV
  unfold shapeV at CP
  go_enter Try.func18, Try.ntmps18
  go_wp2_with fail
  refine (CP _).mono ?_
  rintro e0 w1 ⟨rfl, b1⟩
  obtain ⟨X1, B1, z1⟩ := box_new9 b1
  have HX1 : Hid (Box w1 w.heap.size (shapeC s) 25) := X1
  have R1 : Rd w1 h1 (.slice aob n capb) n f := HRB.out.below B1 hh
  have HR1 : Hid (Rd w1 h1 (.slice aob n capb) n f) := R1
  obtain ⟨x0, x1, x2, x3, x4, x5, x6, x7, x8⟩ := box9 X1
  have HL0 : Hid (∀ W : World, W.heap = (w1.alloc (.cells #[] 5)).heap → Own W w1.heap.size (w1.heap.size + 1) (.slice (some ⟨w1.heap.size, 0, none⟩) 0 0) 0 (padZ n f)) := fun W hW => by
    have h5 := own_lit0 w1 (padZ n f)
    have e5 : (w1.alloc (.cells #[] 5)).heap.size = w1.heap.size + 1 := by simp
    rw [e5] at h5
    exact h5.kept fun g hg => by rw [hW]
  have HL2 : Hid (∀ W : World, W.heap = ((w1.alloc (.cells #[] 5)).alloc (.cells (shapeC s) 25)).heap → Own W w1.heap.size (w1.heap.size + 1) (.slice (some ⟨w1.heap.size, 0, none⟩) 0 0) 0 (padZ n f)) := fun W hW => by
    have h5 := (own_lit0 w1 (padZ n f)).alloc (.cells (shapeC s) 25)
    have e5 : (w1.alloc (.cells #[] 5)).heap.size = w1.heap.size + 1 := by simp
    rw [e5] at h5
    exact h5.kept fun g hg => by rw [hW]
  have HL1 : Hid (∀ W : World, W.heap = ((w1.alloc (.cells (shapeC s) 25)).alloc (.cells #[] 5)).heap → Own W w1.heap.size (w1.heap.size + 2) (.slice (some ⟨w1.heap.size + 1, 0, none⟩) 0 0) 0 (padZ n f)) := fun W hW => by
    have h5 := own_lit0 (w1.alloc (.cells (shapeC s) 25)) (padZ n f)
    have e6 : (w1.alloc (.cells (shapeC s) 25)).heap.size = w1.heap.size + 1 := by simp
    have e5 : ((w1.alloc (.cells (shapeC s) 25)).alloc (.cells #[] 5)).heap.size = w1.heap.size + 2 := by simp
    rw [e5, e6] at h5
    exact (h5.weaken (by omega) (Nat.le_refl _)).kept fun g hg => by rw [hW]
  have HB0 : Hid (Below w1.heap.size w1 (w1.alloc (.cells #[] 5)) ∧ Below w1.heap.size w1 ((w1.alloc (.cells #[] 5)).alloc (.cells (shapeC s) 25)) ∧ Below w1.heap.size w1 ((w1.alloc (.cells (shapeC s) 25)).alloc (.cells #[] 5))) :=
    ⟨(Below.refl _ _).alloc (Nat.le_refl _) _, ((Below.refl _ _).alloc (Nat.le_refl _) _).alloc (by simp) _, ((Below.refl _ _).alloc (Nat.le_refl _) _).alloc (by simp) _⟩
  have HRB2 : Hid (∀ W, Below w1.heap.size w1 W → Rd W h1 (.slice aob n capb) n f) := fun W b => HR1.out.below b (Nat.le_trans hh B1.size)
  have HPD : Hid (∀ i, i < n → padZ n f (0 + i) = f i) := fun i hi => by simp [padZ, hi]
  have HPZ : Hid (∀ i, i < Z → padZ n f (n + i) = 0) := fun i hi => by unfold padZ; rw [if_neg (by omega)]
  have hn0 : 0 < n := by omega
  have hn00 : n ≠ 0 := by omega
  have hnZ : n + Z ≤ 1000000 := by omega
  have hnn : 0 + n ≤ 1000000 := by omega
  clear b1 X1 R1 CP
  go_wp2_with fail
  go_region_law (first
    | (refine step_appendX rfl (.tmp 13) (.tmp 14) rfl w1.heap.size (w1.heap.size + 1) (.slice (some ⟨w1.heap.size, 0, none⟩) 0 0) 0 (padZ n f) ?_ ?_ h1 (.slice aob n capb) n f ?_ ?_ hn0 HPD.out hnn ?_ ?_; (simp [Act.eval, Act.put]); exact HL0.out _ rfl; (simp [Act.eval, Act.put]); exact HRB2.out _ (below_heap HB0.out.1 rfl rfl rfl rfl); (simp); intro v2 w2 o2 g2; have B2 : Below w1.heap.size w1 w2 := Below.grown (w := w1.alloc (.cells #[] 5)) HB0.out.1 ⟨g2.os, g2.tape, g2.output, g2.size, g2.block⟩ (by simp) (fun k hk => by cases hk; exact Nat.le_refl _); rw [Nat.zero_add] at o2; obtain ⟨ao2, cap2, rfl⟩ := o2.slice; clear g2; obtain ⟨y0, y1, y2, y3, y4, y5, y6, y7, y8⟩ := box9 (HX1.out.below B2 z1))
    | (refine step_appendX rfl (.tmp 13) (.tmp 14) rfl w1.heap.size (w1.heap.size + 1) (.slice (some ⟨w1.heap.size, 0, none⟩) 0 0) 0 (padZ n f) ?_ ?_ h1 (.slice aob n capb) n f ?_ ?_ hn0 HPD.out hnn ?_ ?_; (simp [Act.eval, Act.put]); exact HL2.out _ rfl; (simp [Act.eval, Act.put]); exact HRB2.out _ (below_heap HB0.out.2.1 rfl rfl rfl rfl); exact HB0.out.2.1.size; intro v2 w2 o2 g2; have B2 : Below w1.heap.size w1 w2 := Below.grown (w := (w1.alloc (.cells #[] 5)).alloc (.cells (shapeC s) 25)) HB0.out.2.1 ⟨g2.os, g2.tape, g2.output, g2.size, g2.block⟩ HB0.out.2.1.size (fun k hk => by cases hk; exact Nat.le_refl _); rw [Nat.zero_add] at o2; obtain ⟨ao2, cap2, rfl⟩ := o2.slice; clear g2; obtain ⟨y0, y1, y2, y3, y4, y5, y6, y7, y8⟩ := box9 (HX1.out.below B2 z1))
    | (refine step_appendX rfl (.tmp 13) (.tmp 14) rfl w1.heap.size (w1.heap.size + 2) (.slice (some ⟨w1.heap.size + 1, 0, none⟩) 0 0) 0 (padZ n f) ?_ ?_ h1 (.slice aob n capb) n f ?_ ?_ hn0 HPD.out hnn ?_ ?_; (simp [Act.eval, Act.put]); exact HL1.out _ rfl; (simp [Act.eval, Act.put]); exact HRB2.out _ (below_heap HB0.out.2.2 rfl rfl rfl rfl); exact HB0.out.2.2.size; intro v2 w2 o2 g2; have B2 : Below w1.heap.size w1 w2 := Below.grown (w := (w1.alloc (.cells (shapeC s) 25)).alloc (.cells #[] 5)) HB0.out.2.2 ⟨g2.os, g2.tape, g2.output, g2.size, g2.block⟩ HB0.out.2.2.size (fun k hk => by cases hk; exact Nat.le_succ _); rw [Nat.zero_add] at o2; obtain ⟨ao2, cap2, rfl⟩ := o2.slice; clear g2; obtain ⟨y0, y1, y2, y3, y4, y5, y6, y7, y8⟩ := box9 (HX1.out.below B2 z1))
    | (refine step_call rfl 29 _ _ rfl #[.agg (shapeC s)] ?_ Try.func29 (by kernel_rfl) (by kernel_rfl) (CW _) ?_; (simp [Act.eval, Act.put]); rintro ee w4 ⟨rfl, hw4⟩; obtain rfl := hw4; refine ⟨_, rfl, ?_⟩)
    | (refine step_appendZ rfl (.tmp 15) (.tmp 22) rfl w1.heap.size w2.heap.size (.slice ao2 n cap2) n (padZ n f) ?_ ?_ hn00 Z ?_ HPZ.out hnZ ?_ ?_; (first | rfl | simp [Act.eval, Act.put]); (first | exact o2 | exact o2.alloc _); (simp [Act.eval, Act.put, wT, hTZ, wZ]); (first | exact B2.size | exact (B2.alloc B2.size _).size); intro v3 w3 o3 g3; have B3 : Below w1.heap.size w1 w3 := (by first | exact Below.grown (w := w2) B2 ⟨g3.os, g3.tape, g3.output, g3.size, g3.block⟩ B2.size (fun k hk => (o2.1.lt k hk).1) | exact Below.grown (w := w2.alloc (.cells (shapeC s) 25)) (B2.alloc B2.size _) ⟨g3.os, g3.tape, g3.output, g3.size, g3.block⟩ (B2.alloc B2.size _).size (fun k hk => (o2.1.lt k hk).1)); obtain ⟨ao3, cap3, rfl⟩ := o3.slice))
  all_goals
    have hnz : n + Z = T := HZ.out
    rw [hnz] at o3 ⊢
    obtain ⟨g3, cap3', hg3, g31, g32, g33, g34⟩ := o3.form (by omega)
    simp only [Value.slice.injEq, true_and] at hg3
    obtain ⟨rfl, rfl⟩ := hg3
    have HO3 : Hid (Own w3 w1.heap.size w3.heap.size (.slice (some ⟨g3, 0, none⟩) T cap3) T (padZ n f)) := o3
    have HB3 : Hid (Below w1.heap.size w1 w3) := B3
    have HBW3 : Hid (Below w.heap.size w w3) := B1.trans (B3.mono B1.size)
    have HX3 : Hid (Box w3 w.heap.size (shapeC s) 25) := HX1.out.below B3 z1
    have z3 : w.heap.size < w3.heap.size := by have := B3.size; omega
    clear hnz o3 B3 o2 B2
    try clear y0 y1 y2 y3 y4 y5 y6 y7 y8
    clear x0 x1 x2 x3 x4 x5 x6 x7 x8
    go_wp2
    have hstart : Bld w3 (w3.alloc (.cells #[] 22)) w3.heap.size (.slice (some ⟨w3.heap.size, 0, none⟩) 0 0) 0 (fun _ => W) (splitN D n f) (fun _ => nilS) := by
      have hl := World.ownsRow_lit (base := w3.heap.size) (e := 22) (size := 1) w3 #[] 0 (Nat.le_refl _) (Nat.zero_le _) rfl
      exact ⟨hl, by simp, fun i hi => by omega, fun i j hi => by omega, (Below.refl _ _).alloc (Nat.le_refl _) _, by simp⟩
    go_loopw [7, 8] (fun v i wr => ∃ m : Nat, m ≤ P ∧ i = .int .i64 m ∧ ∃ e, Bld w3 wr w3.heap.size v m (fun _ => W) (splitN D n f) e) (fun _ i _ => P - (intOf i).toNat)
    case atStart => exact ⟨0, Nat.zero_le _, rfl, _, hstart⟩
    case round =>
      clear hstart
      obtain ⟨m, hm, rfl, e2, hB⟩ := hrel
      have szr := hB.le
      have bel := hB.bel
      by_cases hlt : m < P
      · obtain ⟨A, hA⟩ : ∃ A, A = m * W := ⟨_, rfl⟩
        have hAT : A + W ≤ T := by
          rw [hA, HT.out]
          have := Nat.mul_le_mul_right W (show m + 1 ≤ P by omega)
          rw [Nat.succ_mul] at this
          exact this
        have HA : Hid (A = m * W) := hA
        obtain ⟨A2, hA2⟩ : ∃ A2, A2 = A + W := ⟨_, rfl⟩
        have hAm : (m : Int) * (W : Int) = (A : Int) := by rw [hA]; simp
        have hAm2 : ((m : Int) + 1) * (W : Int) = (A2 : Int) := by
          rw [Int.add_mul, hAm, hA2]
          simp
        have wA : IntKind.i64.wrap (A : Int) = (A : Int) := by rw [IntKind.wrap_i64]; omega
        have wA2 : IntKind.i64.wrap (A2 : Int) = (A2 : Int) := by rw [IntKind.wrap_i64]; omega
        have wm1 : IntKind.i64.wrap ((m : Int) + 1) = (m : Int) + 1 := by rw [IntKind.wrap_i64]; omega
        have hsl := fun w => run_slice_mid g3 T cap3 A A2 W (by omega) (by omega) (by omega) (by omega) w
        have HRA : Hid (Rd wr w3.heap.size (.slice (some ⟨g3, A, none⟩) W (cap3 - A)) W (splitN D n f m)) := ⟨_, _, rfl, by unfold maxLen; omega, fun _ => ⟨g3, A, rfl, g32, fun i hi => by
          have := (HO3.out.1.cellAt (A + i) (by omega)).trans (cellsOf_get _ _ _ (by omega))
          rw [(bel.cell (p := ⟨g3, A + i, none⟩) g32).trans this]
          have e9 : 4 * D * m + i = A + i := by rw [HA.out, HW.out, Nat.mul_comm]
          simp only [splitN, padZ, e9]⟩⟩
        have HSP : Hid (∀ i, i < W → splitN D n f m (0 + i) = splitN D n f m i) := fun i _ => by rw [Nat.zero_add]
        have hW0 : 0 < W := by omega
        have hWW : 0 + W ≤ 1000000 := by omega
        have HBB : Hid (Bld w3 wr w3.heap.size u7 m (fun _ => W) (splitN D n f) e2) := hB
        obtain ⟨x0, x1, x2, x3, x4, x5, x6, x7, x8⟩ := box9 (HX3.out.below bel z3)
        have hzr : w.heap.size < wr.heap.size := by omega
        clear hA hA2 hB bel
        go_wp2_with fail
        go_region_law (first
          | (refine step_appendX rfl (.tmp 31) (.tmp 42) rfl wr.heap.size (wr.heap.size + 3) (.slice (some ⟨wr.heap.size, 0, none⟩) 0 0) 0 (splitN D n f m) ?_ ?_ w3.heap.size (.slice (some ⟨g3, A, none⟩) W (cap3 - A)) W (splitN D n f m) ?_ ?_ hW0 HSP.out hWW ?_ ?_; (simp [Act.eval, Act.put]); exact own_lits wr (.cells (shapeC s) 25) (.cells (shapeC s) 25) _ _ _ (.inl ⟨rfl, rfl⟩) _ rfl; (simp [Act.eval, Act.put]); exact HRA.out.below (below3 wr (.cells #[] 5) (.cells (shapeC s) 25) (.cells (shapeC s) 25) _ rfl rfl rfl rfl) szr; exact (below3 wr (.cells #[] 5) (.cells (shapeC s) 25) (.cells (shapeC s) 25) (((wr.alloc (.cells #[] 5)).alloc (.cells (shapeC s) 25)).alloc (.cells (shapeC s) 25)) rfl rfl rfl rfl).size; intro v4 w4 o4 g4; have B4 : Below wr.heap.size wr w4 := Below.grown (w := ((wr.alloc (.cells #[] 5)).alloc (.cells (shapeC s) 25)).alloc (.cells (shapeC s) 25)) (below3 wr (.cells #[] 5) (.cells (shapeC s) 25) (.cells (shapeC s) 25) (((wr.alloc (.cells #[] 5)).alloc (.cells (shapeC s) 25)).alloc (.cells (shapeC s) 25)) rfl rfl rfl rfl) ⟨g4.os, g4.tape, g4.output, g4.size, g4.block⟩ (below3 wr (.cells #[] 5) (.cells (shapeC s) 25) (.cells (shapeC s) 25) (((wr.alloc (.cells #[] 5)).alloc (.cells (shapeC s) 25)).alloc (.cells (shapeC s) 25)) rfl rfl rfl rfl).size (fun k hk => by cases hk; exact Nat.le_refl _); rw [Nat.zero_add] at o4; obtain ⟨ao4, cap4, rfl⟩ := o4.slice; clear g4)
          | (refine step_appendX rfl (.tmp 31) (.tmp 42) rfl wr.heap.size (wr.heap.size + 3) (.slice (some ⟨wr.heap.size + 1, 0, none⟩) 0 0) 0 (splitN D n f m) ?_ ?_ w3.heap.size (.slice (some ⟨g3, A, none⟩) W (cap3 - A)) W (splitN D n f m) ?_ ?_ hW0 HSP.out hWW ?_ ?_; (simp [Act.eval, Act.put]); exact own_lits wr (.cells (shapeC s) 25) (.cells (shapeC s) 25) _ _ _ (.inr (.inl ⟨rfl, rfl⟩)) _ rfl; (simp [Act.eval, Act.put]); exact HRA.out.below (below3 wr (.cells (shapeC s) 25) (.cells #[] 5) (.cells (shapeC s) 25) _ rfl rfl rfl rfl) szr; exact (below3 wr (.cells (shapeC s) 25) (.cells #[] 5) (.cells (shapeC s) 25) (((wr.alloc (.cells (shapeC s) 25)).alloc (.cells #[] 5)).alloc (.cells (shapeC s) 25)) rfl rfl rfl rfl).size; intro v4 w4 o4 g4; have B4 : Below wr.heap.size wr w4 := Below.grown (w := ((wr.alloc (.cells (shapeC s) 25)).alloc (.cells #[] 5)).alloc (.cells (shapeC s) 25)) (below3 wr (.cells (shapeC s) 25) (.cells #[] 5) (.cells (shapeC s) 25) (((wr.alloc (.cells (shapeC s) 25)).alloc (.cells #[] 5)).alloc (.cells (shapeC s) 25)) rfl rfl rfl rfl) ⟨g4.os, g4.tape, g4.output, g4.size, g4.block⟩ (below3 wr (.cells (shapeC s) 25) (.cells #[] 5) (.cells (shapeC s) 25) (((wr.alloc (.cells (shapeC s) 25)).alloc (.cells #[] 5)).alloc (.cells (shapeC s) 25)) rfl rfl rfl rfl).size (fun k hk => by cases hk; exact Nat.le_succ _); rw [Nat.zero_add] at o4; obtain ⟨ao4, cap4, rfl⟩ := o4.slice; clear g4)
          | (refine step_appendX rfl (.tmp 31) (.tmp 42) rfl wr.heap.size (wr.heap.size + 3) (.slice (some ⟨wr.heap.size + 2, 0, none⟩) 0 0) 0 (splitN D n f m) ?_ ?_ w3.heap.size (.slice (some ⟨g3, A, none⟩) W (cap3 - A)) W (splitN D n f m) ?_ ?_ hW0 HSP.out hWW ?_ ?_; (simp [Act.eval, Act.put]); exact own_lits wr (.cells (shapeC s) 25) (.cells (shapeC s) 25) _ _ _ (.inr (.inr ⟨rfl, rfl⟩)) _ rfl; (simp [Act.eval, Act.put]); exact HRA.out.below (below3 wr (.cells (shapeC s) 25) (.cells (shapeC s) 25) (.cells #[] 5) _ rfl rfl rfl rfl) szr; exact (below3 wr (.cells (shapeC s) 25) (.cells (shapeC s) 25) (.cells #[] 5) (((wr.alloc (.cells (shapeC s) 25)).alloc (.cells (shapeC s) 25)).alloc (.cells #[] 5)) rfl rfl rfl rfl).size; intro v4 w4 o4 g4; have B4 : Below wr.heap.size wr w4 := Below.grown (w := ((wr.alloc (.cells (shapeC s) 25)).alloc (.cells (shapeC s) 25)).alloc (.cells #[] 5)) (below3 wr (.cells (shapeC s) 25) (.cells (shapeC s) 25) (.cells #[] 5) (((wr.alloc (.cells (shapeC s) 25)).alloc (.cells (shapeC s) 25)).alloc (.cells #[] 5)) rfl rfl rfl rfl) ⟨g4.os, g4.tape, g4.output, g4.size, g4.block⟩ (below3 wr (.cells (shapeC s) 25) (.cells (shapeC s) 25) (.cells #[] 5) (((wr.alloc (.cells (shapeC s) 25)).alloc (.cells (shapeC s) 25)).alloc (.cells #[] 5)) rfl rfl rfl rfl).size (fun k hk => by cases hk; exact Nat.le_add_right _ _); rw [Nat.zero_add] at o4; obtain ⟨ao4, cap4, rfl⟩ := o4.slice; clear g4)
          | (refine step_call rfl 29 _ _ rfl #[.agg (shapeC s)] ?_ Try.func29 (by kernel_rfl) (by kernel_rfl) (CW _) ?_; (simp [Act.eval, Act.put]); rintro ee w6 ⟨rfl, hw6⟩; obtain rfl := hw6; refine ⟨_, rfl, ?_⟩)
          | (refine step_appendM rfl (.tmp 30) (.tmp 44) rfl w3.heap.size u7 m e2 ?_ ?_ w4.heap.size 1 (.slice ao4 W cap4) ?_ ?_ rfl (by omega) ?_ ?_; (simp [Act.eval, Act.put]); exact (row_kept HBB.out.row fun b hb' => B4.block b (HBB.out.row.lt b hb').2).alloc _; (simp [Act.eval, Act.put]); simp; (simp; have := B4.size; omega); intro v5 w5 hr5 hg5 hn5))
        all_goals
          have NX := HBB.out.next B4 o4 hr5 ⟨hg5.os, hg5.tape, hg5.output, hg5.size, hg5.block⟩ hn5
          obtain ⟨ao5, cap5, rfl⟩ := row_slice hr5
          clear B4 o4 hr5 hg5 hn5 HBB HRA hsl x0 x1 x2 x3 x4 x5 x6 x7 x8
          go_wp2
          go_roundw
          case rel => exact ⟨m + 1, by omega, by go_num, _, NX⟩
          case measure => simp [intOf]; omega
      · obtain rfl : m = P := by omega
        have OM := hB.done
        have HOM : Hid (OwnM wr w.heap.size wr.heap.size u7 m (fun _ => 4 * D) (splitN D n f)) := by
          show OwnM wr w.heap.size wr.heap.size u7 m (fun _ => 4 * D) (splitN D n f)
          rw [← HW.out]
          exact OM.weaken (by omega) (Nat.le_refl _)
        have BF : Below w.heap.size w wr := HBW3.out.trans (bel.mono (by omega))
        clear hB OM bel
        go_wp2
        go_ret
        exact ⟨_, rfl, HOM.out, BF⟩
end Go.Proofs.Ytdnankopblkblab
