/- Walk of the specification's SolveG: l1Solve first. -/
import Derived.Test.YtoadjpacchhleajWSolveI
import Derived.Test.YtoadjpacchhleajWRankS
import Derived.Test.YtoadjpacchhleajWAppend
namespace Go.Proofs.Ytoadjpacchhleaj
open Go.RowKit F256
set_option linter.unusedVariables false
set_option linter.unusedSimpArgs false

theorem belD1 {wr w2 : World} {o : Obj} {q : Nat} (h : Chg wr.heap.size (wr.heap.size + 1) ((wr.alloc o).drewN q) w2) : Below wr.heap.size wr w2 := by
  have h1 := h.below (B := wr.heap.size) (Nat.le_refl _) (by simp)
  exact ((Below.refl wr.heap.size wr).alloc (Nat.le_refl _) o).trans ⟨h1.os, h1.tape, h1.output, h1.size, h1.block⟩
theorem belD2 {wr w2 : World} {o o' : Obj} {q : Nat} (h : Chg wr.heap.size (wr.heap.size + 1) (((wr.alloc o).alloc o').drewN q) w2) : Below wr.heap.size wr w2 := by
  have h1 := h.below (B := wr.heap.size) (Nat.le_refl _) (by simp; omega)
  exact (((Below.refl wr.heap.size wr).alloc (Nat.le_refl _) o).alloc (by simp) o').trans ⟨h1.os, h1.tape, h1.output, h1.size, h1.block⟩
theorem cellD2 {wr w2 : World} {o : Obj} {q : Nat} {x : Value} {t : TypeId} (h : Chg wr.heap.size (wr.heap.size + 1) (((wr.alloc o).alloc (.cells #[x] t)).drewN q) w2) : w2.cell? ⟨wr.heap.size + 1, 0, none⟩ = some x := by
  have hb := h.block (wr.heap.size + 1) (by simp) (.inr (Nat.le_refl _))
  have hc : w2.heap[wr.heap.size + 1]? = some (.cells #[x] t (0, 0)) := hb.trans (heap_alloc2_new wr o (.cells #[x] t))
  exact cell_of_row w2 _ 0 _ t _ hc
theorem belD3 {wr w2 : World} {o o' : Obj} {q : Nat} (h : Chg (wr.heap.size + 1) (wr.heap.size + 1 + 1) (((wr.alloc o).alloc o').drewN q) w2) : Below wr.heap.size wr w2 := by
  have h1 := h.below (B := wr.heap.size) (by omega) (by simp; omega)
  exact (((Below.refl wr.heap.size wr).alloc (Nat.le_refl _) o).alloc (by simp) o').trans ⟨h1.os, h1.tape, h1.output, h1.size, h1.block⟩
theorem cellD3 {wr w2 : World} {o : Obj} {q : Nat} {x : Value} {t : TypeId} (h : Chg (wr.heap.size + 1) (wr.heap.size + 1 + 1) (((wr.alloc (.cells #[x] t)).alloc o).drewN q) w2) : w2.cell? ⟨wr.heap.size, 0, none⟩ = some x := by
  have hb := h.block wr.heap.size (by simp; omega) (.inl (by omega))
  have hc : w2.heap[wr.heap.size]? = some (.cells #[x] t (0, 0)) := hb.trans ((Below.heap_alloc (wr.alloc (.cells #[x] t)) o wr.heap.size (by simp)).trans (box_new wr #[x] t))
  exact cell_of_row w2 _ 0 _ t _ hc
theorem own_lit3 (w : World) (o : Obj) (g : Nat → Nat) : Own ((w.alloc o).alloc (.cells #[] 5)) (w.heap.size + 1) (w.heap.size + 1 + 1) (.slice (some ⟨w.heap.size + 1, 0, none⟩) 0 0) 0 g := by
  have h := own_lit0 (w.alloc o) g
  have hz : (w.alloc o).heap.size = w.heap.size + 1 := by simp
  rw [hz] at h
  exact h.weaken (Nat.le_refl _) (by simp)

/-- the answers of l1Solve: k bytes x -/
def SolvP (R : Nat) (f : Mat) (c : Nat → Nat) (b : Bool) (k : Nat) (x : Nat → Nat) : Prop :=
  (b = true → (gaussM R (aug R f c) R).2 = R ∧ k = R ∧ x = fun i => (gaussM R (aug R f c) R).1 i R) ∧ (b = false → (gaussM R (aug R f c) R).2 < R ∧ k = 0)
theorem solve_ans (R m : Nat) (n : Nat → Nat) (f : Mat) (c : Nat → Nat) : ∃ x, SolveAns R m n f c x := by
  by_cases h1 : 16 < R
  · exact ⟨2, .inl ⟨rfl, h1⟩⟩
  by_cases h2 : R = 0 ∨ m ≠ R ∨ ∃ i, i < R ∧ n i ≠ R
  · exact ⟨1, .inr (.inl ⟨rfl, by omega, h2⟩)⟩
  · have h3 : R ≠ 0 := fun h => h2 (.inl h)
    have h4 : m = R := Classical.byContradiction fun h => h2 (.inr (.inl h))
    have h5 : ∀ i, i < R → n i = R := fun i hi => Classical.byContradiction fun h => h2 (.inr (.inr ⟨i, hi, h⟩))
    have h6 := (gaussM_le (R := R) (M := aug R f c) R).1
    by_cases h7 : (gaussM R (aug R f c) R).2 < R
    · exact ⟨4, .inr (.inr ⟨by omega, h3, h4, h5, .inl ⟨rfl, h7⟩⟩)⟩
    · exact ⟨0, .inr (.inr ⟨by omega, h3, h4, h5, .inr ⟨rfl, by omega⟩⟩)⟩

set_option maxHeartbeats 8000000 in
/-- the solution, or that there is none -/
theorem l1Solve_any (v1 v2 : Value) (R : Nat) (f : Mat) (c : Nat → Nat) (l1 h1 gA cA l2 h2 : Nat) (e : Nat → Value) (w : World) (r1 : OwnE w l1 h1 v1 R (fun _ => R) f gA cA e) (o2 : Own w l2 h2 v2 R c) (hh1 : h1 ≤ w.heap.size) (hh2 : h2 ≤ w.heap.size) (hR : 0 < R) (hR2 : R ≤ 16) (kf : Byt f) (kc : ∀ i, c i < 256) :
    Calls Try.prog 60 #[v1, v2] w fun ee w' => ∃ v' b k x, ee = .returned (.tuple #[v', .bool b]) ∧ SolvP R f c b k x ∧ Own w' w.heap.size w'.heap.size v' k x ∧ Below w.heap.size w w' := by
  obtain rfl := r1.val
  obtain ⟨gr, capr, rfl, hr1, hr2, hr3, hr4⟩ := o2.form (by omega)
  have HA : Hid (OwnE w l1 h1 (.slice (some ⟨gA, 0, none⟩) R cA) R (fun _ => R) f gA cA e) := r1
  have H2 : Hid (Own w l2 h2 (.slice (some ⟨gr, 0, none⟩) R capr) R c) := o2
  have hgw : gA < w.heap.size := by have := r1.high; omega
  clear r1 o2
  go_enter Try.func60, Try.ntmps60
  go_wp2
  have hstart : Bld w (w.alloc (.cells #[] 23)) w.heap.size (.slice (some ⟨w.heap.size, 0, none⟩) 0 0) 0 (fun _ => R + 1) (aug R f c) e := by
    have hl := World.ownsRow_lit (base := w.heap.size) (e := 23) (size := 1) w #[] 0 (Nat.le_refl _) (Nat.zero_le _) rfl
    exact ⟨hl, by simp, fun i hi => by omega, fun i j hi => by omega, (Below.refl _ _).alloc (Nat.le_refl _) _, by simp⟩
  go_loopw [6, 7] (fun v i wr => ∃ m : Nat, m ≤ R ∧ i = .int .i64 m ∧ ∃ e', Bld w wr w.heap.size v m (fun _ => R + 1) (aug R f c) e') (fun _ i _ => R - (intOf i).toNat)
  case atStart => exact ⟨0, Nat.zero_le _, rfl, e, hstart⟩
  case round =>
    clear hstart
    obtain ⟨m, hm1, rfl, e', hB⟩ := hrel
    have hbw : Below w.heap.size w wr := hB.bel
    by_cases hlt : m < R
    · have hcm : wr.cell? ⟨gA, m, none⟩ = some (e m) := (hbw.cell (p := ⟨gA, m, none⟩) hgw).trans (HA.out.cell m hlt)
      have om : Own wr l1 h1 (e m) R (f m) := (HA.out.each m hlt).below hbw hh1
      have hcr : wr.cell? ⟨gr, m, none⟩ = some (.int .u8 (c m)) := by
        have := H2.out.1.cellAt m (by omega)
        rw [cellsOf_get _ _ _ hlt] at this
        exact (hbw.cell (p := ⟨gr, m, none⟩) (by show gr < w.heap.size; omega)).trans this
      obtain ⟨y, hy⟩ : ∃ y, y = c m := ⟨_, rfl⟩
      have HY : Hid (y = c m) := hy
      obtain ⟨x, hx⟩ : ∃ x, x = e m := ⟨_, rfl⟩
      rw [← hy] at hcr
      rw [← hx] at hcm om
      obtain ⟨aom, capm, hsm⟩ := om.slice
      subst hsm
      have HOM : Hid (Own wr l1 h1 (.slice aom R capm) R (f m)) := om
      have HBB : Hid (Bld w wr w.heap.size u6 m (fun _ => R + 1) (aug R f c) e') := hB
      have FE0 : ∀ i, i < R → f m i = aug R f c m i := fun i hi => by simp [aug, hi]
      have FY0 : y = aug R f c m R := by rw [HY.out]; simp [aug]
      have FE : Hid (∀ i, i < R → f m i = aug R f c m i) := FE0
      have FY : Hid (y = aug R f c m R) := FY0
      clear FE0 FY0
      have hszr := hB.le
      have hg1 : gA < wr.heap.size := by omega
      have hg2 : gr < wr.heap.size := by omega
      have hz1 : ∀ q, ((wr.drewN q).alloc (.cells #[] 5)).cell? ⟨gA, m, none⟩ = some (.slice aom R capm) := fun q => (cell_alloc_old (wr.drewN q) _ gA m hg1).trans hcm
      clear hy hx om hB
      go_wp2
      go_region_law (first | (refine step_appendC rfl (.tmp 19) (.tmp 23) rfl wr.heap.size (fun _ => 0) ?_ ?_ l1 h1 (.slice aom R capm) R (f m) ?_ ?_ (by omega) ?_; (simp [Act.eval, Act.put]); (exact (own_lit0 wr (fun _ => 0)).weaken (Nat.le_refl _) (by simp)); (simp [Act.eval, Act.put]); (exact HOM.out.alloc _); intro v2 w2 ho2 hc2; obtain ⟨ao2, cap2, rfl⟩ := ho2.slice; have bD : Below wr.heap.size wr w2 := belD1 hc2; have qr : w2.cell? ⟨gr, m, none⟩ = some (.int .u8 y) := (bD.cell (p := ⟨gr, m, none⟩) hg2).trans hcr) | (refine step_appendC rfl (.tmp 19) (.tmp 23) rfl wr.heap.size (fun _ => 0) ?_ ?_ l1 h1 (.slice aom R capm) R (f m) ?_ ?_ (by omega) ?_; (simp [Act.eval, Act.put]); (exact ((own_lit0 wr (fun _ => 0)).weaken (Nat.le_refl _) (by simp)).alloc _); (simp [Act.eval, Act.put]); (exact (HOM.out.alloc _).alloc _); intro v2 w2 ho2 hc2; obtain ⟨ao2, cap2, rfl⟩ := ho2.slice; have bD : Below wr.heap.size wr w2 := belD2 hc2; have qg : w2.cell? ⟨wr.heap.size + 1, 0, none⟩ = some (.int .u8 y) := cellD2 hc2) | (refine step_appendC rfl (.tmp 19) (.tmp 23) rfl (wr.heap.size + 1) (fun _ => 0) ?_ ?_ l1 h1 (.slice aom R capm) R (f m) ?_ ?_ (by omega) ?_; (simp [Act.eval, Act.put]); (exact own_lit3 wr _ (fun _ => 0)); (simp [Act.eval, Act.put]); (exact (HOM.out.alloc _).alloc _); intro v2 w2 ho2 hc2; obtain ⟨ao2, cap2, rfl⟩ := ho2.slice; have bD : Below wr.heap.size wr w2 := belD3 hc2; have qg : w2.cell? ⟨wr.heap.size, 0, none⟩ = some (.int .u8 y) := cellD3 hc2; replace ho2 := ho2.weaken (lo' := wr.heap.size) (by omega) (Nat.le_refl _)) | (refine step_appendB rfl (.tmp 24) (.tmp 29) rfl wr.heap.size w2.heap.size (.slice ao2 R cap2) R (aug R f c m) ?_ ?_ w2.heap.size 1 ?_ ?_ (by omega) ?_ ?_; (simp [Act.eval, Act.put]); (exact (ho2.congr FE.out).alloc _); (simp [Act.eval, Act.put]); (rw [← FY.out]; simp); (simp; have := bD.size; omega); intro v3 w3 ho3 hb3; obtain ⟨ao3, cap3, rfl⟩ := ho3.slice; have bH : Below wr.heap.size wr w3 := bD.trans (((Below.refl _ w2).alloc bD.size _).trans hb3)) | (refine step_appendB rfl (.tmp 24) (.tmp 29) rfl wr.heap.size w2.heap.size (.slice ao2 R cap2) R (aug R f c m) ?_ ?_ (wr.heap.size + 1) 1 ?_ ?_ (by omega) ?_ ?_; (simp [Act.eval, Act.put]); (exact ho2.congr FE.out); (simp [Act.eval, Act.put]); (rw [← FY.out]; exact qg); (have := bD.size; omega); intro v3 w3 ho3 hb3; obtain ⟨ao3, cap3, rfl⟩ := ho3.slice; have bH : Below wr.heap.size wr w3 := bD.trans hb3) | (refine step_appendB rfl (.tmp 24) (.tmp 29) rfl wr.heap.size w2.heap.size (.slice ao2 R cap2) R (aug R f c m) ?_ ?_ wr.heap.size 1 ?_ ?_ (by omega) ?_ ?_; (simp [Act.eval, Act.put]); (exact ho2.congr FE.out); (simp [Act.eval, Act.put]); (rw [← FY.out]; exact qg); (have := bD.size; omega); intro v3 w3 ho3 hb3; obtain ⟨ao3, cap3, rfl⟩ := ho3.slice; have bH : Below wr.heap.size wr w3 := bD.trans hb3) | (refine step_appendM rfl (.tmp 18) (.tmp 31) rfl w.heap.size u6 m e' ?_ ?_ w3.heap.size 1 (.slice ao3 (R + 1) cap3) ?_ ?_ rfl (by omega) ?_ ?_; (simp [Act.eval, Act.put]); (exact (row_kept HBB.out.row fun b hb' => bH.block b (HBB.out.row.lt b hb').2).alloc _); (simp [Act.eval, Act.put]); simp; (simp; have := bH.size; omega); intro v4 w4 hr4 hg4 hn4))
      all_goals
        have NX := HBB.out.next bH ho3 hr4 hg4 hn4
        clear HBB HOM bH bD hr4 hg4 hn4 ho3 hb3 ho2 hc2 hbw
        go_wp2
        go_roundw
        case rel => exact ⟨m + 1, by omega, by go_num, _, NX⟩
        case measure => simp [intOf]; omega
    · have hmn : m = R := by omega
      subst hmn
      obtain ⟨g2, c2, e2, hE⟩ := hB.done
      have RD := l1Step_any _ m (m + 1) m (aug m f c) w.heap.size g2 c2 e2 (by omega) (by omega) (by omega) (aug_byt kf kc) wr hE
      have hv := hE.val
      rw [hv] at RD
      clear hE hB
      subst hv
      go_wp2_with fail
      refine RD.mono ?_
      rintro ee w4 ⟨rfl, ⟨e4, hE4⟩, hb4⟩
      have B4 : Below w.heap.size w w4 := hbw.trans hb4
      have hle := (gaussM_le (R := m) (M := aug m f c) m).1
      obtain ⟨G, hG⟩ : ∃ G, G = gaussM m (aug m f c) m := ⟨_, rfl⟩
      have HG : Hid (G = gaussM m (aug m f c) m) := hG
      rw [← hG] at hle hE4 ⊢
      obtain ⟨rk, hrk⟩ : ∃ rk, rk = G.2 := ⟨_, rfl⟩
      have HRK : Hid (rk = G.2) := hrk
      rw [← hrk] at hle ⊢
      clear hG hrk hb4 RD hbw
      have hw4 := B4.size
      by_cases hfull : rk < m
      · go_wp2
        go_ret2
        exact ⟨_, false, 0, fun _ => 0, rfl, ⟨fun h => by simp at h, fun _ => ⟨by rw [← HG.out, ← HRK.out]; exact hfull, rfl⟩⟩, own_nil _ _ _ _, B4⟩
      · go_wp2
        go_loopw [9, 10] (fun v i wr => ∃ q : Nat, q ≤ m ∧ i = .int .i64 q ∧ Own wr w4.heap.size wr.heap.size v q (fun i => G.1 i m) ∧ Below w4.heap.size w4 wr) (fun _ i _ => m - (intOf i).toNat)
        case atStart => exact ⟨0, Nat.zero_le _, rfl, own_lit0 w4 _, (Below.refl _ _).alloc (Nat.le_refl _) _⟩
        case round =>
          obtain ⟨q, hq, rfl, hown, hb⟩ := hrel
          by_cases hqk : q < m
          · have cq : wr.cell? ⟨g2, q, none⟩ = some (e4 q) := (hb.cell (p := ⟨g2, q, none⟩) hE4.high).trans (hE4.cell q hqk)
            obtain ⟨gq, capq, heq, hg1, hg2, hg3, _⟩ := (hE4.each q hqk).form (by omega)
            have cv : wr.cell? ⟨gq, m, none⟩ = some (.int .u8 (G.1 q m)) := by
              have h5 := (hE4.each q hqk).1
              rw [heq] at h5
              exact (hb.cell (p := ⟨gq, m, none⟩) hg2).trans ((h5.cellAt m (by omega)).trans (cellsOf_get _ _ _ (by omega)))
            rw [heq] at cq
            obtain ⟨y, hy⟩ : ∃ y, y = G.1 q m := ⟨_, rfl⟩
            have HY : Hid (y = G.1 q m) := hy
            rw [← hy] at cv
            have hsz := hb.size
            have HO : Hid (Own wr w4.heap.size wr.heap.size u9 q (fun i => G.1 i m)) := hown
            have HB : Hid (Below w4.heap.size w4 wr) := hb
            clear hy heq hown hb
            go_wp2_with (at_builtin; refine wp_appendB rfl (.tmp 46) (.tmp 54) rfl w4.heap.size wr.heap.size u9 q (fun i => G.1 i m) ?_ ?_ wr.heap.size 1 ?_ ?_ (by omega) ?_ ?_; (simp [Act.eval]); exact HO.out.alloc _; (simp [Act.eval]); (rw [← HY.out]; simp); (simp; omega); intro v' w5 hown5 hb5)
            have R5 : Below w4.heap.size w4 w5 := (HB.out.alloc hsz _).trans hb5
            clear hb5 HO HB
            go_wp2
            go_roundw
            case rel => exact ⟨q + 1, by omega, by go_num, hown5, R5⟩
            case measure => simp [intOf]; omega
          · have hqn : q = m := by omega
            subst hqn
            go_wp2
            go_ret2
            refine ⟨_, true, q, fun i => G.1 i q, rfl, ⟨fun _ => ⟨by rw [← HG.out, ← HRK.out]; omega, rfl, by rw [← HG.out]⟩, fun h => by simp at h⟩, ?_, B4.trans (hb.mono (by omega))⟩
            exact hown.weaken (by omega) (Nat.le_refl _)
end Go.Proofs.Ytoadjpacchhleaj
