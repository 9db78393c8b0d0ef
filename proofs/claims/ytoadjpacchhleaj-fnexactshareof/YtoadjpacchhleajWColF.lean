/- Walk of the specification's ShareOf. -/
import Derived.Test.YtoadjpacchhleajColDefs
import Derived.Test.YtoadjpacchhleajWColE
namespace Go.Proofs.Ytoadjpacchhleaj
open Go.RowKit F256
set_option linter.unusedVariables false
set_option linter.unusedSimpArgs false

set_option maxHeartbeats 4000000 in
theorem specShare_any (g c want : Int) (v : Value) (m : Nat) (h : Nat → Int) (l1 h1 : Nat) (w : World) (o : OwnI w l1 h1 v m h) (hh : h1 ≤ w.heap.size) (hm9 : m ≤ 1000000000) :
    Calls Try.prog 7 #[.int .i64 g, .int .i64 c, v, .int .i64 want] w fun ee w' => ∃ x v', ee = .returned (bytesR x v') ∧ ShAns g c m h want x ∧ Own w' w.heap.size w'.heap.size v' (if x = 0 then m else 0) (shareN g.toNat (fun k => (h k).toNat) want.toNat) ∧ Below w.heap.size w w' := by
  have HO : Hid (OwnI w l1 h1 v m h) := o
  obtain ⟨ao, cap, rfl⟩ := o.slice
  clear o
  go_enter Try.func7, Try.ntmps7
  go_wp2_with fail
  refine (l3Shape_any g c _).mono ?_
  rintro e w1 ⟨b1, rfl, hb1, b1'⟩
  have HS : Hid (b1 = true ↔ Shp3 g c) := hb1
  have B1 : Below w.heap.size w w1 := bnew b1'
  have X1 : Box w1 w.heap.size #[.int .i64 0, .slice none 0 0] 25 := (box_new w _ _).below b1' (by simp)
  have z1 : w.heap.size < w1.heap.size := X1.lt
  obtain ⟨x0, x1, y0, y1⟩ := res_cells X1
  clear hb1 b1'
  cases b1 with
  | false =>
    have HNO : Hid (¬ Shp3 g c) := fun h => by have := HS.out.mpr h; cases this
    clear HS
    go_wp2
    exact bodyPost_ret (v := bytesR 3 (.slice none 0 0)) (by simp [results, Try.results7, go_sem, bytesR, x0, x1]) rfl ⟨3, _, rfl, .inl ⟨rfl, HNO.out⟩, own_nil _ _ _ _, (B1.setCell (Nat.le_refl _) _).setCell (Nat.le_refl _) _⟩
  | true =>
    have hsh := HS.out.mp rfl
    have HSH : Hid (Shp3 g c) := hsh
    obtain ⟨q1, q2, q3, q4⟩ := hsh
    obtain ⟨D, rfl⟩ : ∃ D : Nat, g = D := ⟨g.toNat, by omega⟩
    obtain ⟨S, rfl⟩ : ∃ S : Nat, c = S := ⟨c.toNat, by omega⟩
    have CR := l2Rise_any (.slice ao m cap) m h h1 ((D : Int) + (S : Int) - 1) w1 (HO.out.below B1 hh).rd
    clear HS x0 x1 y0 y1
    go_wp2_with fail
    refine CR.mono ?_
    rintro e w2 ⟨b2, rfl, hb2, b2'⟩
    have HRI : Hid (b2 = true ↔ RiseP m h ((D : Int) + (S : Int) - 1)) := hb2
    have B2 : Below w.heap.size w w2 := B1.trans (b2'.mono B1.size)
    have X2 : Box w2 w.heap.size #[.int .i64 0, .slice none 0 0] 25 := X1.below b2' z1
    have z2 : w.heap.size < w2.heap.size := X2.lt
    obtain ⟨x0, x1, y0, y1⟩ := res_cells X2
    clear hb2 b2' X1 B1 z1 CR
    cases b2 with
    | false =>
      have HNO : Hid (¬ RiseP m h ((D : Int) + (S : Int) - 1)) := fun hh => by have := HRI.out.mpr hh; cases this
      clear HRI
      go_wp2
      exact bodyPost_ret (v := bytesR 1 (.slice none 0 0)) (by simp [results, Try.results7, go_sem, bytesR, x0, x1]) rfl ⟨1, _, rfl, .inr (.inl ⟨rfl, HSH.out, HNO.out⟩), own_nil _ _ _ _, (B2.setCell (Nat.le_refl _) _).setCell (Nat.le_refl _) _⟩
    | true =>
      have HRP : Hid (RiseP m h ((D : Int) + (S : Int) - 1)) := HRI.out.mp rfl
      clear HRI
      by_cases hw : 0 ≤ want ∧ want ≤ (D : Int) + (S : Int) - 1
      · have HW : Hid (0 ≤ want ∧ want ≤ (D : Int) + (S : Int) - 1) := hw
        have CL := l1In_yes want 0 ((D : Int) + (S : Int) - 1) hw.1 hw.2 w2
        have CH := l1Has_any (.slice ao m cap) m h h1 want w2 (HO.out.below B2 hh).rd
        clear hw x0 x1 y0 y1
        go_wp2_with fail
        refine CL.mono ?_
        rintro e w3 ⟨rfl, hw3⟩
        obtain rfl := hw3.symm
        clear CL
        go_wp2_with fail
        refine CH.mono ?_
        rintro e w3 ⟨b3, rfl, hb3, b3'⟩
        have HH : Hid (b3 = true ↔ HasP m h want) := hb3
        have B3 : Below w.heap.size w w3 := B2.trans (b3'.mono B2.size)
        have X3 : Box w3 w.heap.size #[.int .i64 0, .slice none 0 0] 25 := X2.below b3' z2
        have z3 : w.heap.size < w3.heap.size := X3.lt
        obtain ⟨x0, x1, y0, y1⟩ := res_cells X3
        clear hb3 b3' X2 B2 z2 CH
        cases b3 with
        | true =>
          have HY : Hid (HasP m h want) := HH.out.mp rfl
          clear HH
          go_wp2
          exact bodyPost_ret (v := bytesR 7 (.slice none 0 0)) (by simp [results, Try.results7, go_sem, bytesR, x0, x1]) rfl ⟨7, _, rfl, .inr (.inr (.inr (.inl ⟨rfl, HSH.out, HRP.out, HW.out, HY.out⟩))), own_nil _ _ _ _, (B3.setCell (Nat.le_refl _) _).setCell (Nat.le_refl _) _⟩
        | false =>
          have HN : Hid (¬ HasP m h want) := fun hh => by have := HH.out.mpr hh; cases this
          clear HH
          by_cases hlt : m < D
          · have tl : (m : Int) < (D : Int) := by omega
            go_wp2
            exact bodyPost_ret (v := bytesR 10 (.slice none 0 0)) (by simp [results, Try.results7, go_sem, bytesR, x0, x1]) rfl ⟨10, _, rfl, .inr (.inr (.inr (.inr (.inl ⟨rfl, HSH.out, HRP.out, HW.out, HN.out, tl⟩)))), own_nil _ _ _ _, (B3.setCell (Nat.le_refl _) _).setCell (Nat.le_refl _) _⟩
          · have tl : decide ((m : Int) < (D : Int)) = false := by simp; omega
            have hw := HW.out
            obtain ⟨W, rfl⟩ : ∃ W : Nat, want = W := ⟨want.toNat, by omega⟩
            obtain ⟨n1, n2, n3⟩ := rise_nat' (n := D) HRP.out (by omega)
            have CX := l3Share_any D W (.slice ao m cap) m h (fun k => (h k).toNat) l1 h1 w3 (HO.out.below B3 hh) (Nat.le_trans hh B3.size) n1 (by omega) hm9 (by omega) (by omega) (fun k hk => by have := n2 k hk; show (h k).toNat < D + 2; omega) n3 (by omega)
            clear n1 n2 n3 hw x0 x1 y0 y1
            go_wp2_with fail
            refine CX.mono ?_
            rintro e w4 ⟨v4, rfl, o4, b4⟩
            obtain ⟨ao4, cap4, rfl⟩ := o4.slice
            have HO4 : Hid (Own w4 w3.heap.size w4.heap.size (.slice ao4 m cap4) m (shareN D (fun k => (h k).toNat) W)) := o4
            have B4 : Below w.heap.size w w4 := B3.trans (b4.mono (by omega))
            have X4 : Box w4 w.heap.size #[.int .i64 0, .slice none 0 0] 25 := X3.below b4 z3
            have z4 := X4.lt
            obtain ⟨x0, x1, y0, y1⟩ := res_cells X4
            clear o4 b4 CX X4 X3
            go_wp2
            refine bodyPost_ret (v := bytesR 0 (.slice ao4 m cap4)) (by simp [results, Try.results7, go_sem, bytesR, x0, x1]) rfl ⟨0, _, rfl, .inr (.inr (.inr (.inr (.inr ⟨rfl, HSH.out, HRP.out, HW.out, HN.out, by omega⟩)))), ?_, (B4.setCell (Nat.le_refl _) _).setCell (Nat.le_refl _) _⟩
            have o1 := out_store w4 w.heap.size (w.heap.size + 1) w.heap.size 0 (.int .i64 0) (Nat.le_refl _) (by omega)
            have o2 := out_store (w4.setCell ⟨w.heap.size, 0, none⟩ (.int .i64 0)) w.heap.size (w.heap.size + 1) w.heap.size 1 (.slice ao4 m cap4) (Nat.le_refl _) (by omega)
            simp only [if_pos]
            rw [Int.toNat_natCast, Int.toNat_natCast]
            exact (HO4.out.out (o1.trans o2) (.inr (by omega))).weaken (by omega) (by rw [(o1.trans o2).size]; exact Nat.le_refl _)
      · have HNW : Hid (¬ (0 ≤ want ∧ want ≤ (D : Int) + (S : Int) - 1)) := hw
        have CL := l1In_no want 0 ((D : Int) + (S : Int) - 1) (by omega) w2
        clear hw
        go_wp2_with fail
        refine CL.mono ?_
        rintro e w3 ⟨rfl, hw3⟩
        obtain rfl := hw3.symm
        clear CL
        go_wp2
        exact bodyPost_ret (v := bytesR 3 (.slice none 0 0)) (by simp [results, Try.results7, go_sem, bytesR, x0, x1]) rfl ⟨3, _, rfl, .inr (.inr (.inl ⟨rfl, HSH.out, HRP.out, HNW.out⟩)), own_nil _ _ _ _, (B2.setCell (Nat.le_refl _) _).setCell (Nat.le_refl _) _⟩
end Go.Proofs.Ytoadjpacchhleaj
