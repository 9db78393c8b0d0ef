/- Walk of the program's RowWeights. -/
import Derived.Test.YtoadjpacchhleaiWImplF
import Derived.Test.YtoadjpacchhleaiWRowI
import Derived.Test.YtoadjpacchhleaiWRise
namespace Go.Proofs.Ytoadjpacchhleai
open Go.RowKit F256
set_option linter.unusedVariables false
set_option linter.unusedSimpArgs false

set_option maxHeartbeats 4000000 in
theorem implWeights_any (d s want : Int) (v : Value) (m : Nat) (g : Nat → Int) (l1 h1 : Nat) (w : World) (o : OwnI w l1 h1 v m g) (hh : h1 ≤ w.heap.size) :
    Calls Try.prog 11 #[.int .i64 d, .int .i64 s, v, .int .i64 want] w fun ee w' => ∃ x v', ee = .returned (bytesR x v') ∧ WtAns d s m g want x ∧ Own w' w.heap.size w'.heap.size v' (if x = 0 then m else 0) (weightsN d.toNat 0 (fun k => (g k).toNat) want.toNat) ∧ Below w.heap.size w w' := by
  have r := o.rd
  have HR : Hid (RdI w h1 v m g) := r
  obtain ⟨ao, cap, rfl, hm, hxx⟩ := r
  clear hxx o
  unfold maxLen at hm
  go_enter Try.func11, Try.ntmps11
  go_wp2_with fail
  refine (rowInBounds_any d s _).mono ?_
  rintro e w1 ⟨b1, rfl, hb1, b1'⟩
  have HS : Hid (b1 = true ↔ Shp d s) := hb1
  have B1 : Below w.heap.size w w1 := bnew b1'
  have X1 : Box w1 w.heap.size #[.int .i64 0, .slice none 0 0] 25 := (box_new w _ _).below b1' (by simp)
  have z1 : w.heap.size < w1.heap.size := X1.lt
  obtain ⟨x0, x1, y0, y1⟩ := res_cells X1
  clear hb1 b1'
  cases b1 with
  | false =>
    have HNO : Hid (¬ Shp d s) := fun h => by have := HS.out.mpr h; cases this
    clear HS
    go_wp2
    exact bodyPost_ret (v := bytesR 3 (.slice none 0 0)) (by simp [results, Try.results11, go_sem, bytesR, x0, x1]) rfl ⟨3, _, rfl, .inl ⟨rfl, HNO.out⟩, own_nil _ _ _ _, (B1.setCell (Nat.le_refl _) _).setCell (Nat.le_refl _) _⟩
  | true =>
    have hsh := HS.out.mp rfl
    have HSH : Hid (Shp d s) := hsh
    obtain ⟨q1, q2, q3, q4⟩ := hsh
    obtain ⟨D, rfl⟩ : ∃ D : Nat, d = D := ⟨d.toNat, by omega⟩
    obtain ⟨S, rfl⟩ : ∃ S : Nat, s = S := ⟨s.toNat, by omega⟩
    clear HS
    by_cases hlen : m = D
    · subst hlen
      have tl : ((m : Int) != (m : Int)) = false := by simp
      have CR := risesWithin_any (.slice ao m cap) m g h1 ((m : Int) + (S : Int)) (by omega) w1 (HR.out.below B1 hh)
      go_wp2_with fail
      refine CR.mono ?_
      rintro e w2 ⟨b2, rfl, hb2, b2'⟩
      have HRI : Hid (b2 = true ↔ RiseP m g ((m : Int) + (S : Int) - 1)) := hb2
      have B2 : Below w.heap.size w w2 := B1.trans (b2'.mono B1.size)
      have X2 : Box w2 w.heap.size #[.int .i64 0, .slice none 0 0] 25 := X1.below b2' z1
      have z2 : w.heap.size < w2.heap.size := X2.lt
      clear x0 x1 y0 y1
      obtain ⟨x0, x1, y0, y1⟩ := res_cells X2
      clear hb2 b2' X1 B1 z1 CR
      cases b2 with
      | false =>
        have HNO : Hid (¬ RiseP m g ((m : Int) + (S : Int) - 1)) := fun h => by have := HRI.out.mpr h; cases this
        clear HRI
        go_wp2
        exact bodyPost_ret (v := bytesR 1 (.slice none 0 0)) (by simp [results, Try.results11, go_sem, bytesR, x0, x1]) rfl ⟨1, _, rfl, .inr (.inl ⟨rfl, HSH.out, .inr HNO.out⟩), own_nil _ _ _ _, (B2.setCell (Nat.le_refl _) _).setCell (Nat.le_refl _) _⟩
      | true =>
        have HRP : Hid (RiseP m g ((m : Int) + (S : Int) - 1)) := HRI.out.mp rfl
        clear HRI
        by_cases hw0 : want < 0
        · have HNW : Hid (¬ (0 ≤ want ∧ want ≤ (m : Int) + (S : Int) - 1)) := fun h => by omega
          go_wp2
          exact bodyPost_ret (v := bytesR 3 (.slice none 0 0)) (by simp [results, Try.results11, go_sem, bytesR, x0, x1]) rfl ⟨3, _, rfl, .inr (.inr (.inl ⟨rfl, HSH.out, rfl, HRP.out, HNW.out⟩)), own_nil _ _ _ _, (B2.setCell (Nat.le_refl _) _).setCell (Nat.le_refl _) _⟩
        · have tw0 : decide (want < 0) = false := by simp; omega
          by_cases hw1 : (m : Int) + (S : Int) ≤ want
          · have HNW : Hid (¬ (0 ≤ want ∧ want ≤ (m : Int) + (S : Int) - 1)) := fun h => by omega
            clear hw0
            go_wp2
            exact bodyPost_ret (v := bytesR 3 (.slice none 0 0)) (by simp [results, Try.results11, go_sem, bytesR, x0, x1]) rfl ⟨3, _, rfl, .inr (.inr (.inl ⟨rfl, HSH.out, rfl, HRP.out, HNW.out⟩)), own_nil _ _ _ _, (B2.setCell (Nat.le_refl _) _).setCell (Nat.le_refl _) _⟩
          · obtain ⟨W, rfl⟩ : ∃ W : Nat, want = W := ⟨want.toNat, by omega⟩
            have tw1 : decide ((m : Int) + (S : Int) ≤ (W : Int)) = false := by simp; omega
            have hWW : W < m + 2 := by omega
            have HWB : Hid (0 ≤ (W : Int) ∧ (W : Int) ≤ (m : Int) + (S : Int) - 1) := ⟨by omega, by omega⟩
            obtain ⟨n1, n2, n3⟩ := rise_nat HRP.out (rfl : m = m)
            have rN : RdI w2 h1 (.slice ao m cap) m (fun i => (((g i).toNat : Nat) : Int)) := by
              obtain ⟨ao', cap', hv', hm', hc'⟩ := HR.out.below B2 hh
              refine ⟨ao', cap', hv', hm', fun h0 => ?_⟩
              obtain ⟨b, off, h1', h2', h3'⟩ := hc' h0
              exact ⟨b, off, h1', h2', fun i hi => by rw [h3' i hi]; show some (Value.int .i64 (g i)) = some (Value.int .i64 (((g i).toNat : Nat) : Int)); rw [← n1 i hi]⟩
            have CWt := weightsOf_any m W (.slice ao m cap) (fun i => (g i).toNat) h1 w2 rN (Nat.le_trans hh B2.size) (by omega) (by omega) (fun k hk => by have := n2 k hk; show (g k).toNat < m + 2; omega) n3 hWW
            clear n1 n2 n3 rN hw0 hw1 x0 x1 y0 y1
            go_wp2_with fail
            refine CWt.mono ?_
            rintro e w4 ⟨v4, rfl, o4, b4⟩
            obtain ⟨ao4, cap4, rfl⟩ := o4.slice
            have HO : Hid (Own w4 w2.heap.size w4.heap.size (.slice ao4 m cap4) m (weightsN m 0 (fun i => (g i).toNat) W)) := o4
            have B4 : Below w.heap.size w w4 := B2.trans (b4.mono (by omega))
            have X4 : Box w4 w.heap.size #[.int .i64 0, .slice none 0 0] 25 := X2.below b4 z2
            have z4 := X4.lt
            obtain ⟨x0, x1, y0, y1⟩ := res_cells X4
            clear o4 b4 CWt X4 X2
            go_wp2
            refine bodyPost_ret (v := bytesR 0 (.slice ao4 m cap4)) (by simp [results, Try.results11, go_sem, bytesR, x0, x1]) rfl ⟨0, _, rfl, .inr (.inr (.inr ⟨rfl, HSH.out, rfl, HRP.out, HWB.out.1, HWB.out.2⟩)), ?_, (B4.setCell (Nat.le_refl _) _).setCell (Nat.le_refl _) _⟩
            have o1 := out_store w4 w.heap.size (w.heap.size + 1) w.heap.size 0 (.int .i64 0) (Nat.le_refl _) (by omega)
            have o2 := out_store (w4.setCell ⟨w.heap.size, 0, none⟩ (.int .i64 0)) w.heap.size (w.heap.size + 1) w.heap.size 1 (.slice ao4 m cap4) (Nat.le_refl _) (by omega)
            simp only [if_pos]
            rw [Int.toNat_natCast, Int.toNat_natCast]
            exact (HO.out.out (o1.trans o2) (.inr (by omega))).weaken (by omega) (by rw [(o1.trans o2).size]; exact Nat.le_refl _)
    · have tl : ((m : Int) != (D : Int)) = true := by simp; omega
      have HNE : Hid ((m : Int) ≠ (D : Int)) := by show (m : Int) ≠ (D : Int); omega
      clear hlen
      go_wp2
      exact bodyPost_ret (v := bytesR 1 (.slice none 0 0)) (by simp [results, Try.results11, go_sem, bytesR, x0, x1]) rfl ⟨1, _, rfl, .inr (.inl ⟨rfl, HSH.out, .inl HNE.out⟩), own_nil _ _ _ _, (B1.setCell (Nat.le_refl _) _).setCell (Nat.le_refl _) _⟩

end Go.Proofs.Ytoadjpacchhleai
