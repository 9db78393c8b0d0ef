/- Walk of the specification's RankG. -/
import Derived.Test.YteelhafnkkfcbahWStep
import Derived.Test.YteelhafnkkfcbahWRankI
import Derived.Test.YteelhafnkkfcbahWBld
namespace Go.Proofs.Yteelhafnkkfcbah
open Go.RowKit F256
set_option linter.unusedVariables false
set_option linter.unusedSimpArgs false

set_option maxHeartbeats 4000000 in
theorem specRank_any (v : Value) (R : Nat) (n : Nat → Nat) (f : Mat) (lA hA gA cA : Nat) (e : Nat → Value) (w : World) (r1 : OwnE w lA hA v R n f gA cA e) (hh1 : hA ≤ w.heap.size) (kf : Byt f) :
    Calls Try.prog 23 #[v] w fun ee w' => ∃ c x, ee = .returned (intR c x) ∧ RankAns R n f c x ∧ Below w.heap.size w w' := by
  have hm : R ≤ maxLen := by obtain ⟨_, _, _, _, h, _⟩ := r1.rd; exact h
  unfold maxLen at hm
  obtain rfl := r1.val
  have hb0 : Below w.heap.size w (w.alloc (.cells #[.int .i64 0, .int .i64 0] 39)) := (Below.refl _ _).alloc (Nat.le_refl _) _
  have rA := r1.below hb0 hh1
  have HA : Hid (OwnE w lA hA (.slice (some ⟨gA, 0, none⟩) R cA) R n f gA cA e) := r1
  by_cases hbig : 16 < R
  · clear rA r1
    go_enter Try.func23, Try.ntmps23
    go_wp2
    exact bodyPost_ret (v := intR 2 0) (by simp [results, Try.results23, go_sem, intR]) rfl ⟨2, 0, rfl, .inl ⟨rfl, rfl, .inl hbig⟩, (Below.refl _ _).alloc (Nat.le_refl _) _⟩
  have HCA : Hid (∀ i, i < R → (w.alloc (.cells #[.int .i64 0, .int .i64 0] 39)).cell? ⟨gA, i, none⟩ = some (e i)) := fun i hi => rA.cell i hi
  have hgw : gA < w.heap.size := by have := r1.high; omega
  clear rA r1
  go_enter Try.func23, Try.ntmps23
  go_wp2
  go_loop [3] (fun i => ∃ k : Nat, k ≤ R ∧ i = .int .i64 k ∧ ∀ i, i < k → n i ≤ 16) (fun i => R - (intOf i).toNat)
  case atStart => exact ⟨0, Nat.zero_le _, rfl, fun i hi => by omega⟩
  case round =>
    obtain ⟨k, hk, rfl, hall⟩ := hrel
    have HALL : Hid (∀ i, i < k → n i ≤ 16) := hall
    clear hall
    by_cases hlt : k < R
    · obtain ⟨aok, capk, hsk⟩ := (HA.out.each k hlt).slice
      have hle := (HA.out.each k hlt).le
      unfold maxLen at hle
      have hck := HCA.out k hlt
      rw [hsk] at hck
      obtain ⟨nk, hnk⟩ : ∃ x, x = n k := ⟨_, rfl⟩
      have HK : Hid (nk = n k) := hnk
      rw [← hnk] at hck hle
      have hck' : w.cell? ⟨gA, k, none⟩ = some (.slice aok nk capk) := by rw [← hck]; exact (cell_alloc_old w _ gA k hgw).symm
      clear hnk hsk hck
      by_cases hl : nk ≤ 16
      · go_wp2
        go_round
        case rel => exact ⟨k + 1, by omega, by go_num, fun i hi => by
                      by_cases cc : i = k
                      · rw [cc, ← HK.out]; exact hl
                      · exact HALL.out i (by omega)⟩
        case measure => simp [intOf]; omega
      · go_wp2
        exact bodyPost_ret (v := intR 2 0) (by simp [results, Try.results23, go_sem, intR]) rfl ⟨2, 0, rfl, .inl ⟨rfl, rfl, .inr ⟨k, hlt, by rw [← HK.out]; omega⟩⟩, (Below.refl _ _).alloc (Nat.le_refl _) _⟩
    · have hkn : k = R := by omega
      subst hkn
      go_wp2
      have hstart : Bld (w.alloc (.cells #[.int .i64 0, .int .i64 0] 39)) ((w.alloc (.cells #[.int .i64 0, .int .i64 0] 39)).alloc (.cells #[] 23)) (w.heap.size + 1) (.slice (some ⟨w.heap.size + 1, 0, none⟩) 0 0) 0 n f e := by
        have hl := World.ownsRow_lit (base := w.heap.size + 1) (e := 23) (size := 1) (w.alloc (.cells #[.int .i64 0, .int .i64 0] 39)) #[] 0 (by simp) (Nat.zero_le _) rfl
        have hz : (w.alloc (.cells #[.int .i64 0, .int .i64 0] 39)).heap.size = w.heap.size + 1 := by simp
        rw [hz] at hl
        exact ⟨hl, by simp, fun i hi => by omega, fun i j hi => by omega, (Below.refl _ _).alloc (by simp) _, by simp⟩
      go_loopw [4, 5] (fun v i wr => ∃ m : Nat, m ≤ k ∧ i = .int .i64 m ∧ (∀ i, i < m → n i = n 0) ∧ ∃ e', Bld (w.alloc (.cells #[.int .i64 0, .int .i64 0] 39)) wr (w.heap.size + 1) v m n f e') (fun _ i _ => k - (intOf i).toNat)
      case atStart => exact ⟨0, Nat.zero_le _, rfl, fun i hi => by omega, e, hstart⟩
      case round =>
        clear hstart
        obtain ⟨m, hm1, rfl, heq0, e', hB⟩ := hrel
        have HEQ : Hid (∀ i, i < m → n i = n 0) := heq0
        clear heq0
        have hbw : Below w.heap.size w wr := hb0.trans (hB.bel.mono (by omega))
        have hres : Box wr w.heap.size #[.int .i64 0, .int .i64 0] 39 := (box_new w _ _).below hB.bel (by omega)
        obtain ⟨x0, x1, y0, y1⟩ := res_cells hres
        by_cases hlt2 : m < k
        · obtain ⟨aom, capm, hsm⟩ := (HA.out.each m hlt2).slice
          obtain ⟨ao0, cap0, hs0⟩ := (HA.out.each 0 (by omega)).slice
          have hnm := HALL.out m hlt2
          have hn0 := HALL.out 0 (by omega)
          have hcm : wr.cell? ⟨gA, m, none⟩ = some (e m) := (hB.bel.cell (p := ⟨gA, m, none⟩) (by show gA < w.heap.size + 1; omega)).trans (HCA.out m hlt2)
          have hc0 : wr.cell? ⟨gA, 0, none⟩ = some (e 0) := (hB.bel.cell (p := ⟨gA, 0, none⟩) (by show gA < w.heap.size + 1; omega)).trans (HCA.out 0 (by omega))
          have om : Own wr lA hA (e m) (n m) (f m) := (HA.out.each m hlt2).below hbw hh1
          obtain ⟨nm, hnmd⟩ : ∃ x, x = n m := ⟨_, rfl⟩
          obtain ⟨n0, hn0d⟩ : ∃ x, x = n 0 := ⟨_, rfl⟩
          have HM : Hid (nm = n m) := hnmd
          have H0 : Hid (n0 = n 0) := hn0d
          rw [hsm] at hcm
          rw [hs0] at hc0
          rw [← hnmd] at hcm hnm
          rw [← hn0d] at hc0 hn0
          have HOM : Hid (Own wr lA hA (.slice aom nm capm) nm (f m)) := by
            have := om
            rw [hsm, ← hnmd] at this
            exact this
          have HBB : Hid (Bld (w.alloc (.cells #[.int .i64 0, .int .i64 0] 39)) wr (w.heap.size + 1) u4 m n f e') := hB
          have hszr := hB.le
          have hgr : gA < wr.heap.size := by omega
          clear hnmd hn0d hsm hs0 om hB
          by_cases hne : nm = n0
          · subst hne
            have hcm3 : ∀ q, ((wr.drewN q).alloc (.cells #[] 5)).cell? ⟨gA, m, none⟩ = some (.slice aom nm capm) := fun q => (cell_alloc_old (wr.drewN q) _ gA m hgr).trans hcm
            go_wp2
            go_quiet (fail)
            go_wp2_with (first | (at_builtin; refine wp_appendC rfl (.tmp 42) (.tmp 46) rfl wr.heap.size (wr.heap.size + 1) (.slice (some ⟨wr.heap.size, 0, none⟩) 0 0) (fun _ => 0) ?_ ?_ lA hA (.slice aom nm capm) nm (f m) ?_ ?_ (by omega) ?_ ?_; (simp [Act.eval]); exact (own_lit0 wr (fun _ => 0)).weaken (Nat.le_refl _) (by simp); (simp [Act.eval]); exact HOM.out.alloc _; simp; intro v2 w2 ho2 hb2; obtain ⟨ao2, cap2, rfl⟩ := ho2.slice) | (at_builtin; refine wp_appendM rfl (.tmp 41) (.tmp 48) rfl (w.heap.size + 1) u4 m e' ?_ ?_ w2.heap.size 1 (.slice ao2 nm cap2) ?_ ?_ rfl (by omega) ?_ ?_; (simp [Act.eval]); exact (row_kept HBB.out.row fun b hb' => (hb2.block b (HBB.out.row.lt b hb').2).trans (Below.heap_alloc wr _ b (HBB.out.row.lt b hb').2)).alloc _; (simp [Act.eval]); simp; (simp; have := hb2.size; simp at this; omega); intro v4 w4 hr4 hg4 hn4))
            have hb3 : Below wr.heap.size wr w2 := ((Below.refl wr.heap.size wr).alloc (Nat.le_refl _) (.cells #[] 5)).trans ⟨hb2.os, hb2.tape, hb2.output, hb2.size, hb2.block⟩
            have NX := HBB.out.next hb3 (by rw [← HM.out]; exact ho2) hr4 hg4 hn4
            clear hb3 hb2 ho2 hr4 hg4 hn4 HBB HOM hres x0 x1 y0 y1 hbw
            go_wp2
            go_roundw
            case rel => exact ⟨m + 1, by omega, by go_num, fun i hi => by
                          by_cases cc : i = m
                          · rw [cc, ← HM.out, ← H0.out]
                          · exact HEQ.out i (by omega), _, NX⟩
            case measure => simp [intOf]; omega
          · have tn : ((nm : Int) != (n0 : Int)) = true := by simp; omega
            go_wp2
            go_quiet (fail)
            go_wp2
            exact bodyPost_ret (v := intR 1 0) (by simp [results, Try.results23, go_sem, intR, x0, x1]) rfl ⟨1, 0, rfl, .inr (.inl ⟨rfl, rfl, by omega, HALL.out, m, hlt2, by rw [← HM.out, ← H0.out]; exact hne⟩), ((below_drewN hbw _).setCell (Nat.le_refl _) _).setCell (Nat.le_refl _) _⟩
        · have hmn : m = k := by omega
          subst hmn
          by_cases hR0 : m = 0
          · subst hR0
            obtain ⟨ao, cap, hv⟩ : ∃ ao cap, u4 = .slice ao 0 cap := by
              rcases hB.row.2 with ⟨h, h2⟩ | ⟨g, cap, cur, h, _⟩
              · exact ⟨_, _, h⟩
              · exact ⟨_, _, h⟩
            subst hv
            clear hB
            go_wp2
            exact bodyPost_ret (v := intR 0 0) (by simp [results, Try.results23, go_sem, intR, x0, x1]) rfl ⟨0, 0, rfl, .inr (.inr ⟨rfl, by omega, HALL.out, HEQ.out, rfl⟩), (hbw.setCell (Nat.le_refl _) _).setCell (Nat.le_refl _) _⟩
          · obtain ⟨g2, c2, e2, hE⟩ := hB.done
            obtain ⟨N, hN⟩ : ∃ N, N = n 0 := ⟨_, rfl⟩
            have HN : Hid (N = n 0) := hN
            have hE2 := hE.congrN (n' := fun _ => N) (fun i hi => by rw [HEQ.out i hi, ← hN])
            have hN16 : N ≤ 16 := by rw [hN]; exact HALL.out 0 (by omega)
            have RD := l1Step_any _ m N N f (w.heap.size + 1) g2 c2 e2 (Nat.le_refl _) (by omega) (by omega) kf wr hE2
            have t0 : ((m : Int) == 0) = false := by simp; omega
            have hz0 := hE2.cell 0 (by omega)
            obtain ⟨aoz, capz, hsz⟩ := (hE2.each 0 (by omega)).slice
            rw [hsz] at hz0
            have hv := hE2.val
            have hbel1 := hB.bel
            rw [hv] at RD
            clear hN hE hE2 hsz hB
            subst hv
            go_wp2_with fail
            refine RD.mono ?_
            rintro ee w4 ⟨rfl, hE4, hb4⟩
            have B4 : Below w.heap.size w w4 := hbw.trans (hb4.mono (by omega))
            have X4 : Box w4 w.heap.size #[.int .i64 0, .int .i64 0] 39 := hres.below hb4 (by omega)
            obtain ⟨z0, z1, z2, z3⟩ := res_cells X4
            have hle := (gaussM_le (R := m) (M := f) N).1
            obtain ⟨rk, hrk⟩ : ∃ rk, rk = (gaussM m f N).2 := ⟨_, rfl⟩
            have HRK : Hid (rk = (gaussM m f N).2) := hrk
            rw [← hrk] at hle ⊢
            clear hrk hE4 hb4 X4 hz0 RD x0 x1 y0 y1 hres
            go_wp2
            refine bodyPost_ret (v := intR 0 rk) (by simp [results, Try.results23, go_sem, intR, z0, z1]) rfl ⟨0, rk, rfl, .inr (.inr ⟨rfl, by omega, HALL.out, HEQ.out, ?_⟩), (B4.setCell (Nat.le_refl _) _).setCell (Nat.le_refl _) _⟩
            rw [if_neg hR0, HRK.out, HN.out]
end Go.Proofs.Yteelhafnkkfcbah
