/- Walk of the specification's RowWeights. -/
import Derived.Test.YtoadjpacchhleaiWRowH
import Derived.Test.YtoadjpacchhleaiWRowF
import Derived.Test.YtoadjpacchhleaiGaussW
namespace Go.Proofs.Ytoadjpacchhleai
open Go.RowKit F256
set_option linter.unusedVariables false
set_option linter.unusedSimpArgs false

/-- numbers that rise are told by their naturals -/
theorem rise_nat {n m : Nat} {g : Nat → Int} {most : Int} (h : RiseP m g most) (hn : n = m) : (∀ k, k < n → g k = ((g k).toNat : Int)) ∧ (∀ k, k < n → ((g k).toNat : Int) ≤ most) ∧ ∀ k, k + 1 < n → (g k).toNat < (g (k + 1)).toNat := by
  subst hn
  refine ⟨fun k hk => ?_, fun k hk => ?_, fun k hk => ?_⟩
  · have := (h k hk).1; omega
  · have h1 := (h k hk).1
    have h2 := (h k hk).2.1
    omega
  · have h1 := (h k (by omega)).1
    have h2 := (h (k + 1) hk).2.2 (by omega)
    rw [show k + 1 - 1 = k by omega] at h2
    omega

theorem l2Weights_row (n want : Nat) (vh : Value) (hv : Nat → Nat) (h1 : Nat) (w : World) (rh : RdI w h1 vh n (fun i => (hv i : Int))) (hh : h1 ≤ w.heap.size) (hn0 : 1 ≤ n) (hn : n ≤ 3) (hb : ∀ k, k < n → hv k < n + 2) (hr : ∀ k, k + 1 < n → hv k < hv (k + 1)) (hw : want < n + 2) :
    Calls Try.prog 43 #[.int .i64 n, vh, .int .i64 want, .int .i64 0] w fun e w' => ∃ v', e = .returned v' ∧ Own w' w.heap.size w'.heap.size v' n (weightsN n 0 hv want) ∧ Below w.heap.size w w' := by
  have C := l2Weights_any n 0 want vh n hv h1 w rh hh (Nat.le_refl _) hn0 (by omega) (fun k hk => by have := hb k hk; omega) (by omega)
  have e0 : ((0 : Nat) : Int) = 0 := rfl
  rw [e0] at C
  refine C.mono fun e w' ⟨v', b, k, x, he, hp, ho, hbel⟩ => ?_
  have hfull := row_full n hn0 hn hv (genN n want 0) hb hr
  have hbt : b = true := by
    cases b with
    | true => rfl
    | false => have := (hp.2 rfl).1; omega
  obtain ⟨_, hk, hx⟩ := hp.1 hbt
  subst hk
  subst hx
  exact ⟨v', he, ho, hbel⟩

/-- the answers of RowWeights -/
def WtAns (d s : Int) (m : Nat) (g : Nat → Int) (want : Int) (x : Int) : Prop :=
  (x = 3 ∧ ¬ Shp d s) ∨ (x = 1 ∧ Shp d s ∧ ((m : Int) ≠ d ∨ ¬ RiseP m g (d + s - 1))) ∨ (x = 3 ∧ Shp d s ∧ (m : Int) = d ∧ RiseP m g (d + s - 1) ∧ ¬ (0 ≤ want ∧ want ≤ d + s - 1)) ∨ (x = 0 ∧ Shp d s ∧ (m : Int) = d ∧ RiseP m g (d + s - 1) ∧ 0 ≤ want ∧ want ≤ d + s - 1)
theorem WtAns.one {d s : Int} {m : Nat} {g : Nat → Int} {want : Int} {x y : Int} (h : WtAns d s m g want x) (k : WtAns d s m g want y) : x = y := by
  rcases h with ⟨rfl, h⟩ | ⟨rfl, h, h2⟩ | ⟨rfl, h, h2, h3, h4⟩ | ⟨rfl, h, h2, h3, h4⟩ <;> rcases k with ⟨rfl, k⟩ | ⟨rfl, k, k2⟩ | ⟨rfl, k, k2, k3, k4⟩ | ⟨rfl, k, k2, k3, k4⟩ <;> first | rfl | exact absurd h k | exact absurd k h | (rcases h2 with h2 | h2; exact absurd k2 h2; exact absurd k3 h2) | (rcases k2 with k2 | k2; exact absurd h2 k2; exact absurd h3 k2) | exact absurd k4 h4 | exact absurd h4 k4
theorem wt_ans (d s : Int) (m : Nat) (g : Nat → Int) (want : Int) : ∃ x, WtAns d s m g want x := by
  by_cases h : Shp d s
  · by_cases h2 : (m : Int) = d
    · by_cases h3 : RiseP m g (d + s - 1)
      · by_cases h4 : 0 ≤ want ∧ want ≤ d + s - 1
        · exact ⟨0, .inr (.inr (.inr ⟨rfl, h, h2, h3, h4⟩))⟩
        · exact ⟨3, .inr (.inr (.inl ⟨rfl, h, h2, h3, h4⟩))⟩
      · exact ⟨1, .inr (.inl ⟨rfl, h, .inr h3⟩)⟩
    · exact ⟨1, .inr (.inl ⟨rfl, h, .inl h2⟩)⟩
  · exact ⟨3, .inl ⟨rfl, h⟩⟩

set_option maxHeartbeats 4000000 in
theorem specWeights_any (d s want : Int) (v : Value) (m : Nat) (g : Nat → Int) (h1 : Nat) (w : World) (r : RdI w h1 v m g) (hh : h1 ≤ w.heap.size) :
    Calls Try.prog 9 #[.int .i64 d, .int .i64 s, v, .int .i64 want] w fun ee w' => ∃ x v', ee = .returned (bytesR x v') ∧ WtAns d s m g want x ∧ Own w' w.heap.size w'.heap.size v' (if x = 0 then m else 0) (weightsN d.toNat 0 (fun k => (g k).toNat) want.toNat) ∧ Below w.heap.size w w' := by
  have HR : Hid (RdI w h1 v m g) := r
  obtain ⟨ao, cap, rfl, hm, hxx⟩ := r
  clear hxx
  unfold maxLen at hm
  go_enter Try.func9, Try.ntmps9
  go_wp2_with fail
  refine (l2Shape_any d s _).mono ?_
  rintro e w1 ⟨b1, rfl, hb1, b1'⟩
  have HS : Hid (b1 = true ↔ Shp d s) := hb1
  have B1 : Below w.heap.size w w1 := bnew b1'
  have X1 : Box w1 w.heap.size #[.int .i64 0, .slice none 0 0] 25 := (box_new w _ _).below b1' (by simp)
  have z1 : w.heap.size < w1.heap.size := X1.lt
  obtain ⟨x0, x1, y0, y1⟩ := res_cells X1
  clear hb1 b1'
  cases b1 with
  | false =>
    have HNO : Hid (¬ Shp d s) := fun h => by have := HS.out.mpr h; cases this
    clear HS
    go_wp2
    exact bodyPost_ret (v := bytesR 3 (.slice none 0 0)) (by simp [results, Try.results9, go_sem, bytesR, x0, x1]) rfl ⟨3, _, rfl, .inl ⟨rfl, HNO.out⟩, own_nil _ _ _ _, (B1.setCell (Nat.le_refl _) _).setCell (Nat.le_refl _) _⟩
  | true =>
    have hsh := HS.out.mp rfl
    have HSH : Hid (Shp d s) := hsh
    obtain ⟨q1, q2, q3, q4⟩ := hsh
    obtain ⟨D, rfl⟩ : ∃ D : Nat, d = D := ⟨d.toNat, by omega⟩
    obtain ⟨S, rfl⟩ : ∃ S : Nat, s = S := ⟨s.toNat, by omega⟩
    clear HS
    by_cases hlen : m = D
    · subst hlen
      have tl : ((m : Int) != (m : Int)) = false := by simp
      have CR := l2Rise_any (.slice ao m cap) m g h1 ((m : Int) + (S : Int) - 1) w1 (HR.out.below B1 hh)
      go_wp2_with fail
      refine CR.mono ?_
      rintro e w2 ⟨b2, rfl, hb2, b2'⟩
      have HRI : Hid (b2 = true ↔ RiseP m g ((m : Int) + (S : Int) - 1)) := hb2
      have B2 : Below w.heap.size w w2 := B1.trans (b2'.mono B1.size)
      have X2 : Box w2 w.heap.size #[.int .i64 0, .slice none 0 0] 25 := X1.below b2' z1
      have z2 : w.heap.size < w2.heap.size := X2.lt
      clear x0 x1 y0 y1
      obtain ⟨x0, x1, y0, y1⟩ := res_cells X2
      clear hb2 b2' X1 B1 z1 CR
      cases b2 with
      | false =>
        have HNO : Hid (¬ RiseP m g ((m : Int) + (S : Int) - 1)) := fun h => by have := HRI.out.mpr h; cases this
        clear HRI
        go_wp2
        exact bodyPost_ret (v := bytesR 1 (.slice none 0 0)) (by simp [results, Try.results9, go_sem, bytesR, x0, x1]) rfl ⟨1, _, rfl, .inr (.inl ⟨rfl, HSH.out, .inr HNO.out⟩), own_nil _ _ _ _, (B2.setCell (Nat.le_refl _) _).setCell (Nat.le_refl _) _⟩
      | true =>
        have HRP : Hid (RiseP m g ((m : Int) + (S : Int) - 1)) := HRI.out.mp rfl
        clear HRI
        by_cases hw : 0 ≤ want ∧ want ≤ (m : Int) + (S : Int) - 1
        · obtain ⟨W, rfl⟩ : ∃ W : Nat, want = W := ⟨want.toNat, by omega⟩
          have hwm : (W : Int) ≤ (m : Int) + (S : Int) - 1 := hw.2
          have hWW : W < m + 2 := by omega
          obtain ⟨n1, n2, n3⟩ := rise_nat HRP.out (rfl : m = m)
          have rN : RdI w2 h1 (.slice ao m cap) m (fun i => (((g i).toNat : Nat) : Int)) := by
            obtain ⟨ao', cap', hv', hm', hc'⟩ := HR.out.below B2 hh
            refine ⟨ao', cap', hv', hm', fun h0 => ?_⟩
            obtain ⟨b, off, h1', h2', h3'⟩ := hc' h0
            exact ⟨b, off, h1', h2', fun i hi => by rw [h3' i hi]; show some (Value.int .i64 (g i)) = some (Value.int .i64 (((g i).toNat : Nat) : Int)); rw [← n1 i hi]⟩
          have CL := l1In_yes (W : Int) 0 ((m : Int) + (S : Int) - 1) (by omega) hwm w2
          have CWt := l2Weights_row m W (.slice ao m cap) (fun i => (g i).toNat) h1 w2 rN (Nat.le_trans hh B2.size) (by omega) (by omega) (fun k hk => by have := n2 k hk; show (g k).toNat < m + 2; omega) n3 hWW
          have HCWt : Hid (Calls Try.prog 43 #[.int .i64 m, .slice ao m cap, .int .i64 W, .int .i64 0] w2 fun e w' => ∃ v', e = .returned v' ∧ Own w' w2.heap.size w'.heap.size v' m (weightsN m 0 (fun i => (g i).toNat) W) ∧ Below w2.heap.size w2 w') := CWt
          clear n1 n2 n3 rN CWt hw x0 x1 y0 y1
          go_wp2_with fail
          refine CL.mono ?_
          rintro e w3 ⟨rfl, hw3⟩
          obtain rfl := hw3.symm
          clear CL
          go_wp2_with fail
          refine HCWt.out.mono ?_
          rintro e w4 ⟨v4, rfl, o4, b4⟩
          obtain ⟨ao4, cap4, rfl⟩ := o4.slice
          have HO : Hid (Own w4 w2.heap.size w4.heap.size (.slice ao4 m cap4) m (weightsN m 0 (fun i => (g i).toNat) W)) := o4
          have B4 : Below w.heap.size w w4 := B2.trans (b4.mono (by omega))
          have X4 : Box w4 w.heap.size #[.int .i64 0, .slice none 0 0] 25 := X2.below b4 z2
          have z4 := X4.lt
          obtain ⟨x0, x1, y0, y1⟩ := res_cells X4
          clear o4 b4 HCWt X4 X2
          go_wp2
          refine bodyPost_ret (v := bytesR 0 (.slice ao4 m cap4)) (by simp [results, Try.results9, go_sem, bytesR, x0, x1]) rfl ⟨0, _, rfl, .inr (.inr (.inr ⟨rfl, HSH.out, rfl, HRP.out, by omega, hwm⟩)), ?_, (B4.setCell (Nat.le_refl _) _).setCell (Nat.le_refl _) _⟩
          have o1 := out_store w4 w.heap.size (w.heap.size + 1) w.heap.size 0 (.int .i64 0) (Nat.le_refl _) (by omega)
          have o2 := out_store (w4.setCell ⟨w.heap.size, 0, none⟩ (.int .i64 0)) w.heap.size (w.heap.size + 1) w.heap.size 1 (.slice ao4 m cap4) (Nat.le_refl _) (by omega)
          simp only [if_pos]
          rw [Int.toNat_natCast, Int.toNat_natCast]
          exact (HO.out.out (o1.trans o2) (.inr (by omega))).weaken (by omega) (by rw [(o1.trans o2).size]; exact Nat.le_refl _)
        · have HNW : Hid (¬ (0 ≤ want ∧ want ≤ (m : Int) + (S : Int) - 1)) := hw
          have CL := l1In_no want 0 ((m : Int) + (S : Int) - 1) (by omega) w2
          clear hw
          go_wp2_with fail
          refine CL.mono ?_
          rintro e w3 ⟨rfl, hw3⟩
          obtain rfl := hw3.symm
          clear CL
          go_wp2
          exact bodyPost_ret (v := bytesR 3 (.slice none 0 0)) (by simp [results, Try.results9, go_sem, bytesR, x0, x1]) rfl ⟨3, _, rfl, .inr (.inr (.inl ⟨rfl, HSH.out, rfl, HRP.out, HNW.out⟩)), own_nil _ _ _ _, (B2.setCell (Nat.le_refl _) _).setCell (Nat.le_refl _) _⟩
    · have tl : ((m : Int) != (D : Int)) = true := by simp; omega
      have HNE : Hid ((m : Int) ≠ (D : Int)) := by show (m : Int) ≠ (D : Int); omega
      clear hlen
      go_wp2
      exact bodyPost_ret (v := bytesR 1 (.slice none 0 0)) (by simp [results, Try.results9, go_sem, bytesR, x0, x1]) rfl ⟨1, _, rfl, .inr (.inl ⟨rfl, HSH.out, .inl HNE.out⟩), own_nil _ _ _ _, (B1.setCell (Nat.le_refl _) _).setCell (Nat.le_refl _) _⟩
end Go.Proofs.Ytoadjpacchhleai
