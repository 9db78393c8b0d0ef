/- Walk of the program's MixBytes behind its first codes. -/
import Derived.Test.YteelhafnkkfcbahWMixB
namespace Go.Proofs.Yteelhafnkkfcbah
open Go.RowKit F256
set_option linter.unusedVariables false
set_option linter.unusedSimpArgs false

set_option maxHeartbeats 4000000 in
theorem implMix_rest (v1 v2 : Value) (R : Nat) (n : Nat → Nat) (f : Nat → Nat → Nat) (c : Nat → Nat) (h1 h2 : Nat) (w : World) (r1 : RdM w h1 v1 R n f) (r2 : Rd w h2 v2 R c) (hh1 : h1 ≤ w.heap.size) (hh2 : h2 ≤ w.heap.size) (hR : 0 < R) (kf : ∀ i j, f i j < 256) (kc : ∀ i, c i < 256) :
    Calls Try.prog 11 #[v1, v2] w fun e w' => ∃ x v', e = .returned (bytesR x v') ∧ MixAns R n x ∧ Own w' w.heap.size w'.heap.size v' (if x = 0 then n 0 else 0) (if x = 0 then mixN f c R else fun _ => 0) ∧ Below w.heap.size w w' := by
  have hb0 : Below w.heap.size w (w.alloc (.cells #[.int .i64 0, .slice none 0 0] 26)) := (Below.refl _ _).alloc (Nat.le_refl _) _
  have CE := equallyLong_any v1 R n f h1 _ (r1.below hb0 hh1)
  have R1 := r1
  have R2 := r2
  obtain ⟨ao, cap, e, rfl, hm, hc, he⟩ := r1
  obtain ⟨ao2, cap2, rfl, hm2, hc2⟩ := r2
  unfold maxLen at hm hm2
  obtain ⟨b, off, rfl, hblt, hcell⟩ := hc (by omega)
  obtain ⟨b2, off2, rfl, hblt2, hcell2⟩ := hc2 (by omega)
  have t1 : ((R : Int) == 0) = false := by simp; omega
  obtain ⟨ao0, cap0, hs0, hm0, hq0⟩ := he 0 hR
  have hz0 : w.cell? ⟨b, off, none⟩ = some (.slice ao0 (n 0) cap0) := by rw [← hs0]; exact hcell 0 hR
  have HE : Hid (∀ i, i < R → Rd w h1 (e i) (n i) (f i)) := he
  have HC : Hid (∀ i, i < R → w.cell? ⟨b, off + i, none⟩ = some (e i)) := hcell
  have HC2 : Hid (∀ i, i < R → w.cell? ⟨b2, off2 + i, none⟩ = some (.int .u8 (c i))) := hcell2
  unfold maxLen at hm0
  clear hc hc2 hcell hcell2 he hs0 hq0
  obtain ⟨N, hN⟩ : ∃ N, N = n 0 := ⟨_, rfl⟩
  have HN : Hid (N = n 0) := hN
  rw [← hN] at hz0 hm0 ⊢
  clear hN
  have hbw : b < w.heap.size := by omega
  by_cases hall : ∀ i, i < R → n i = n 0
  · have HALL : Hid (∀ i, i < R → n i = n 0) := hall
    clear hall R1 R2
    go_enter Try.func11, Try.ntmps11
    go_wp2_with fail
    refine CE.mono ?_
    rintro ee w1 ⟨bb, rfl, hbb, hb1⟩
    obtain rfl : bb = true := hbb.mpr HALL.out
    clear hbb CE
    have hbel : Below w.heap.size w w1 := bnew hb1
    have hbx : Box w1 w.heap.size #[.int .i64 0, .slice none 0 0] 26 := (box_new w _ _).below hb1 (by simp)
    have hz1 : w1.cell? ⟨b, off, none⟩ = some (.slice ao0 N cap0) := (hbel.cell (p := ⟨b, off, none⟩) hbw).trans hz0
    obtain ⟨x0, x1, y0, y1⟩ := res_cells hbx
    have hl1 := hbx.lt
    clear hb1 hb0 hz0
    by_cases hbig : 20 < R
    · go_wp2
      exact bodyPost_ret (v := bytesR 2 (.slice none 0 0)) (by simp [results, Try.results11, go_sem, bytesR, x0, x1]) rfl ⟨2, _, rfl, .inr (.inl ⟨rfl, HALL.out, .inl hbig⟩), own_nil _ _ _ _, (hbel.setCell (Nat.le_refl _) _).setCell (Nat.le_refl _) _⟩
    · by_cases hbig2 : 4000 < N
      · go_wp2
        exact bodyPost_ret (v := bytesR 2 (.slice none 0 0)) (by simp [results, Try.results11, go_sem, bytesR, x0, x1]) rfl ⟨2, _, rfl, .inr (.inl ⟨rfl, HALL.out, .inr (by rw [← HN.out]; exact hbig2)⟩), own_nil _ _ _ _, (hbel.setCell (Nat.le_refl _) _).setCell (Nat.le_refl _) _⟩
      · go_wp2_with (at_make; refine wp_makeB _ rfl _ _ rfl _ _ N rfl rfl rfl rfl (by omega) ?_; intro w2 hown2 hb2 hz2)
        have B2 : Below w.heap.size w w2 := bthen hbel hb2
        have X2 : Box w2 w.heap.size #[.int .i64 0, .slice none 0 0] 26 := hbx.below hb2 hl1
        clear x0 x1 y0 y1 hbel hbx hb2 hz1
        go_loopw [6, 41] (fun _ i wr => ∃ k : Nat, k ≤ R ∧ i = .int .i64 k ∧ Own wr w1.heap.size w2.heap.size (.slice (some ⟨w1.heap.size, 0, none⟩) N N) N (mixN f c k) ∧ Below w.heap.size w wr ∧ Box wr w.heap.size #[.int .i64 0, .slice none 0 0] 26 ∧ w2.heap.size ≤ wr.heap.size) (fun _ i _ => R - (intOf i).toNat)
        case atStart => exact ⟨0, Nat.zero_le _, rfl, hown2, B2, X2, Nat.le_refl _⟩
        case round =>
          clear hown2 B2 X2
          obtain ⟨k, hk, rfl, hown, hb, hx, hsz⟩ := hrel
          by_cases hlt : k < R
          · have hck : wr.cell? ⟨b, off + k, none⟩ = some (e k) := (hb.cell (p := ⟨b, off + k, none⟩) hbw).trans (HC.out k hlt)
            have hck2 : wr.cell? ⟨b2, off2 + k, none⟩ = some (.int .u8 (c k)) := (hb.cell (p := ⟨b2, off2 + k, none⟩) (by show b2 < w.heap.size; omega)).trans (HC2.out k hlt)
            have hrk : Rd wr h1 (e k) N (f k) := by
              have := (HE.out k hlt).below hb hh1
              rw [HALL.out k hlt, ← HN.out] at this
              exact this
            have C1 := addScaled_any (.slice (some ⟨w1.heap.size, 0, none⟩) N N) (e k) N (mixN f c k) (f k) (mixN f c (k + 1)) (c k) w1.heap.size w2.heap.size h1 (wr.drewN 1) hown hsz hrk (by omega) (by have := hb.size; show h1 ≤ wr.heap.size; omega) (mixN_lt f c kc k) (kf k) (kc k) (fun _ _ => rfl) (by omega)
            obtain ⟨x, hx'⟩ : ∃ x, x = e k := ⟨_, rfl⟩
            rw [← hx'] at hck C1
            have HX : Hid (Box wr w.heap.size #[.int .i64 0, .slice none 0 0] 26) := hx
            clear hx' hrk hown hx
            go_wp2
            go_region_with (go_at_call 29; refine C1.mono ?_; rintro ee w3 ⟨rfl, ho3, hc3⟩)
            all_goals
              have c3 : Chg w1.heap.size w2.heap.size wr w3 := ⟨hc3.os, hc3.tape, hc3.output, hc3.size, hc3.block⟩
              have B3 : Below w.heap.size w w3 := hb.trans (c3.below (by omega) hb.size)
              have X3 : Box w3 w.heap.size #[.int .i64 0, .slice none 0 0] 26 := HX.out.chg c3 (.inl hl1)
              have S3 : w2.heap.size ≤ w3.heap.size := Nat.le_trans hsz c3.size
              clear c3 hc3 hb HX C1
              go_wp2
              go_roundw
              case rel => exact ⟨k + 1, by omega, by go_num, ho3, B3, X3, S3⟩
              case measure => simp [intOf]; omega
          · have hkn : k = R := by omega
            subst hkn
            obtain ⟨x0, x1, y0, y1⟩ := res_cells hx
            go_wp2
            refine bodyPost_ret (v := bytesR 0 (.slice (some ⟨w1.heap.size, 0, none⟩) N N)) (by simp [results, Try.results11, go_sem, bytesR, x0, x1]) rfl ⟨0, _, rfl, .inr (.inr ⟨rfl, HALL.out, by omega, by rw [← HN.out]; omega⟩), ?_, (hb.setCell (Nat.le_refl _) _).setCell (Nat.le_refl _) _⟩
            have o1 := out_store wr w.heap.size (w.heap.size + 1) w.heap.size 0 (.int .i64 0) (Nat.le_refl _) (by omega)
            have o2 := out_store (wr.setCell ⟨w.heap.size, 0, none⟩ (.int .i64 0)) w.heap.size (w.heap.size + 1) w.heap.size 1 (.slice (some ⟨w1.heap.size, 0, none⟩) N N) (Nat.le_refl _) (by omega)
            exact (hown.out (o1.trans o2) (.inr (by omega))).weaken (by omega) (by rw [(o1.trans o2).size]; exact hsz)
  · have HALL : Hid (¬ ∀ i, i < R → n i = n 0) := hall
    clear hall R1 R2 HE HC HC2
    go_enter Try.func11, Try.ntmps11
    go_wp2_with fail
    refine CE.mono ?_
    rintro ee w1 ⟨bb, rfl, hbb, hb1⟩
    obtain rfl : bb = false := by
      cases bb with
      | false => rfl
      | true => exact absurd (hbb.mp rfl) HALL.out
    clear hbb CE
    have hbel : Below w.heap.size w w1 := bnew hb1
    have hbx : Box w1 w.heap.size #[.int .i64 0, .slice none 0 0] 26 := (box_new w _ _).below hb1 (by simp)
    obtain ⟨x0, x1, y0, y1⟩ := res_cells hbx
    clear hb1 hb0 hz0
    go_wp2
    refine bodyPost_ret (v := bytesR 1 (.slice none 0 0)) (by simp [results, Try.results11, go_sem, bytesR, x0, x1]) rfl ⟨1, _, rfl, .inl ⟨rfl, ?_⟩, own_nil _ _ _ _, (hbel.setCell (Nat.le_refl _) _).setCell (Nat.le_refl _) _⟩
    exact Classical.byContradiction fun hno => HALL.out fun i hi => Classical.byContradiction fun h => hno ⟨i, hi, h⟩
end Go.Proofs.Yteelhafnkkfcbah
