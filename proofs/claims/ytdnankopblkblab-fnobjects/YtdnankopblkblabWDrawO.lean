/- Walk of the draw of an object. What is drawn is not told. -/
import Derived.Test.YtdnankopblkblabWDrawL
namespace Go.Proofs.Ytdnankopblkblab
open Go.RowKit F256
set_option linter.unusedVariables false
set_option linter.unusedSimpArgs false

theorem max0_any (x : Int) (h1 : -1 ≤ x) (h2 : x ≤ 37) : ∃ N : Nat, N ≤ 37 ∧ ∀ w, Calls Try.prog 14 #[.int .i64 0, .int .i64 x] w fun e w' => e = .returned (.int .i64 (N : Int)) ∧ w' = w := by
  refine ⟨x.toNat, by omega, fun w => ?_⟩
  have := l1Max_any 0 x w
  rw [show (if x < 0 then (0 : Int) else x) = ((x.toNat : Nat) : Int) by split <;> omega] at this
  exact this
theorem chg_drew {lo hi : Nat} {w w2 : World} {d : Nat} (h : Chg lo hi { w with drawn := d } w2) : Chg lo hi w w2 := ⟨h.os, h.tape, h.output, h.size, h.block⟩

theorem own_st {w : World} {lo hi n b j : Nat} {v x : Value} {f : Nat → Nat} (h : Own w lo hi v n f) (hb : b < lo) : Own (w.setCell ⟨b, j, none⟩ x) lo hi v n f := h.out (out_store w b (b + 1) b j x (Nat.le_refl _) (Nat.lt_succ_self _)) (.inr hb)

set_option maxHeartbeats 8000000 in
theorem drawSplit_any (v : Value) (n : Nat) (f : Nat → Nat) (w : World) (h : Rd w w.heap.size v n f) (kf : ∀ i, f i < 256) (hn : n ≤ 1048576) :
    Calls Try.prog 5 #[v] w fun e w' => ∃ (s : Nat → Int) (v' : Value) (N : Nat) (g : Nat → Nat), e = .returned (.tuple #[shapeV s, v']) ∧ Own w' w.heap.size w'.heap.size v' N g ∧ (∀ i, g i < 256) ∧ N ≤ 37 ∧ Below w.heap.size w w' := by
  have b0 : Below w.heap.size w (w.alloc (.cells #[.int .i64 0, .int .i64 0, .int .i64 0, .int .i64 0, .int .i64 0, .int .i64 0, .int .i64 0, .int .i64 0, .int .i64 0] 25)) := (Below.refl _ _).alloc (Nat.le_refl _) _
  have X0 := box_new w #[.int .i64 0, .int .i64 0, .int .i64 0, .int .i64 0, .int .i64 0, .int .i64 0, .int .i64 0, .int .i64 0, .int .i64 0] 25
  have e0 : (w.alloc (.cells #[.int .i64 0, .int .i64 0, .int .i64 0, .int .i64 0, .int .i64 0, .int .i64 0, .int .i64 0, .int .i64 0, .int .i64 0] 25)).heap.size = w.heap.size + 1 := by simp
  have CS := l1Source_any v n f _ ((h.below b0 (Nat.le_refl _)).mono b0.size) kf hn
  rw [e0] at CS
  clear h
  go_enter Try.func5, Try.ntmps5
  go_wp2_with fail
  refine CS.mono ?_
  rintro e w1 ⟨rfl, h1, b1⟩
  have X1 := X0.below b1 (by omega)
  have B1 : Below w.heap.size w w1 := b0.trans (b1.mono (by omega))
  have s1 := h1.1.lt
  have CB := l4Bent_any (w.heap.size + 1) 0 v n f (by omega) w1 h1
  clear CS X0 b0 e0 b1 h1
  go_wp2_with fail
  refine CB.mono ?_
  rintro e w2 ⟨s, t', rfl, ht', h2, c2⟩
  have X2 := X1.chg c2 (.inl (by omega))
  have B2 : Below w.heap.size w w2 := B1.trans (c2.below (by omega) (by omega))
  have s2 := c2.size
  have l2 := h2.1.lt
  have CL := l4Length_any (w.heap.size + 1) t' v n f (by omega) s
  unfold shapeV at CL ⊢
  have Y3 := box_new w2 #[.int .i64 (s 0), .int .i64 (s 1), .int .i64 (s 2), .int .i64 (s 3), .int .i64 (s 4), .int .i64 (s 5), .int .i64 (s 6), .int .i64 (s 7), .int .i64 (s 8)] 25
  have Z3 := X2.allocd (.cells #[.int .i64 (s 0), .int .i64 (s 1), .int .i64 (s 2), .int .i64 (s 3), .int .i64 (s 4), .int .i64 (s 5), .int .i64 (s 6), .int .i64 (s 7), .int .i64 (s 8)] 25)
  have b3 : Below w2.heap.size w2 (w2.alloc (.cells #[.int .i64 (s 0), .int .i64 (s 1), .int .i64 (s 2), .int .i64 (s 3), .int .i64 (s 4), .int .i64 (s 5), .int .i64 (s 6), .int .i64 (s 7), .int .i64 (s 8)] 25)) := (Below.refl _ _).alloc (Nat.le_refl _) _
  have h3 := h2.chgTrans b3
  have B3 : Below w.heap.size w (w2.alloc (.cells #[.int .i64 (s 0), .int .i64 (s 1), .int .i64 (s 2), .int .i64 (s 3), .int .i64 (s 4), .int .i64 (s 5), .int .i64 (s 6), .int .i64 (s 7), .int .i64 (s 8)] 25)) := B2.trans (b3.mono B2.size)
  obtain ⟨w3, hw3⟩ : ∃ x, x = w2.alloc (.cells #[.int .i64 (s 0), .int .i64 (s 1), .int .i64 (s 2), .int .i64 (s 3), .int .i64 (s 4), .int .i64 (s 5), .int .i64 (s 6), .int .i64 (s 7), .int .i64 (s 8)] 25) := ⟨_, rfl⟩
  clear CB X1 X2 B1 B2 h2 c2
  go_wp2_with fail
  rw [← hw3] at Y3 Z3 h3 B3 ⊢
  have s3 := Y3.lt
  clear hw3 b3
  obtain ⟨x0, x1, x2, x3, x4, x5, x6, x7, x8⟩ := box9 Y3
  have HY : Hid (Box w3 w2.heap.size #[.int .i64 (s 0), .int .i64 (s 1), .int .i64 (s 2), .int .i64 (s 3), .int .i64 (s 4), .int .i64 (s 5), .int .i64 (s 6), .int .i64 (s 7), .int .i64 (s 8)] 25) := Y3
  have HZ : Hid (Box w3 w.heap.size #[.int .i64 0, .int .i64 0, .int .i64 0, .int .i64 0, .int .i64 0, .int .i64 0, .int .i64 0, .int .i64 0, .int .i64 0] 25) := Z3
  have HS3 : Hid (Src w3 (w.heap.size + 1) t' v n f) := h3
  have HB3 : Hid (Below w.heap.size w w3) := B3
  clear Y3 Z3 h3 B3
  have ne1 : w2.heap.size < w.heap.size + 1 ∨ w.heap.size + 1 + 1 ≤ w2.heap.size := .inr (by omega)
  have q1 : t' + 2 ≤ 800000 := by omega
  go_region_with (first | (go_at_call 15; refine (CL _ ?_).mono ?_; exact HS3.out; rintro ee w4 ⟨x, hx1, hx2, rfl, h4, c4⟩; have k4 := chg_drew c4; clear c4; obtain ⟨a0, a1, a2, a3, a4, a5, a6, a7, a8⟩ := box9 (HY.out.chg k4 ne1); obtain ⟨N, hN, CM⟩ := max0_any x hx1 hx2) | (go_at_call 14; refine (CM _).mono ?_; rintro ee w5 ⟨rfl, hw5⟩; obtain rfl := hw5.symm) | (go_at_call 13; refine (l1Some_any (w.heap.size + 1) (t' + 2) v n f N (Nat.le_trans hN (Nat.le_of_ble_eq_true rfl)) q1 _ h4).mono ?_; rintro ee w6 ⟨vb, g, rfl, ob, kg, h6, c6⟩; obtain ⟨aob, capb, rfl⟩ := ob.slice; obtain ⟨d0, d1, d2, d3, d4, d5, d6, d7, d8⟩ := box9 ((HY.out.chg k4 ne1).chg c6 ne1); have Z6 := (HZ.out.chg k4 (.inl (Nat.lt_succ_self _))).chg c6 (.inl (Nat.lt_succ_self _)); obtain ⟨y0, y1, y2, y3, y4, y5, y6, y7, y8⟩ := box9 Z6; have z0 := Z6.frozen 0; have z1 := Z6.frozen 1; have z2 := Z6.frozen 2; have z3 := Z6.frozen 3; have z4 := Z6.frozen 4; have z5 := Z6.frozen 5; have z6 := Z6.frozen 6; have z7 := Z6.frozen 7; have z8 := Z6.frozen 8))
  all_goals
    have B6 : Below w.heap.size w w6 := HB3.out.trans ((k4.trans c6).below (Nat.le_succ _) HB3.out.size)
    have hlo : w.heap.size < w4.heap.size := Nat.lt_of_lt_of_le (by omega) k4.size
    clear HS3 h4 h6 CL CM HY HZ a0 a1 a2 a3 a4 a5 a6 a7 a8 x0 x1 x2 x3 x4 x5 x6 x7 x8 d0 d1 d2 d3 d4 d5 d6 d7 d8
    go_wp2
    refine bodyPost_ret (v := .tuple #[.agg #[.int .i64 (s 0), .int .i64 (s 1), .int .i64 (s 2), .int .i64 (s 3), .int .i64 (s 4), .int .i64 (s 5), .int .i64 (s 6), .int .i64 (s 7), .int .i64 (s 8)], .slice aob N capb]) (by simp [results, Try.results5, go_sem, y0, y1, y2, y3, y4, y5, y6, y7, y8]) rfl ⟨s, _, N, g, rfl, ?_, kg, hN, (((((((((B6.setCell (Nat.le_refl _) _).setCell (Nat.le_refl _) _).setCell (Nat.le_refl _) _).setCell (Nat.le_refl _) _).setCell (Nat.le_refl _) _).setCell (Nat.le_refl _) _).setCell (Nat.le_refl _) _).setCell (Nat.le_refl _) _).setCell (Nat.le_refl _) _)⟩
    exact (own_st (own_st (own_st (own_st (own_st (own_st (own_st (own_st (own_st ob hlo) hlo) hlo) hlo) hlo) hlo) hlo) hlo) hlo).weaken (Nat.le_of_lt hlo) (by simp)
end Go.Proofs.Ytdnankopblkblab
