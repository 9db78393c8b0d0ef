/- Walks of the program's risesWithin and RowWeights. -/
import Derived.Test.YtdlbbmadjhonjaiWImplF
import Derived.Test.YtdlbbmadjhonjaiWRowI
namespace Go.Proofs.Ytdlbbmadjhonjai
open Go.RowKit F256
set_option linter.unusedVariables false
set_option linter.unusedSimpArgs false

/-- the least number that may come next -/
def leastN (g : Nat → Int) : Nat → Int
  | 0 => 0
  | k + 1 => g k + 1
theorem rise_next {g : Nat → Int} {most : Int} {k : Nat} (h : RiseP k g most) (h1 : leastN g k ≤ g k) (h2 : g k ≤ most) : RiseP (k + 1) g most := fun i hi => by
  by_cases c : i = k
  · subst c
    cases i with
    | zero => exact ⟨h1, h2, fun h0 => by omega⟩
    | succ j =>
      have := (h j (by omega)).1
      simp only [leastN] at h1
      exact ⟨by omega, h2, fun _ => by rw [show j + 1 - 1 = j by omega]; omega⟩
  · exact h i (by omega)
theorem rise_least {g : Nat → Int} {most : Int} {n k : Nat} (h : RiseP n g most) (hk : k < n) : leastN g k ≤ g k := by
  cases k with
  | zero => exact (h 0 hk).1
  | succ j =>
    have := (h (j + 1) hk).2.2 (by omega)
    rw [show j + 1 - 1 = j by omega] at this
    simp only [leastN]
    omega

set_option maxHeartbeats 2000000 in
theorem risesWithin_any (v : Value) (n : Nat) (g : Nat → Int) (hi : Nat) (bound : Int) (hb : bound ≤ 1000000) (w : World) (r : RdI w hi v n g) :
    Calls Try.prog 36 #[v, .int .i64 bound] w (BoolP (RiseP n g (bound - 1)) w) := by
  obtain ⟨ao, cap, rfl, hm, hc⟩ := r
  unfold maxLen at hm
  go_enter Try.func36, Try.ntmps36
  go_wp2
  go_loop [5, 10] (fun l i => ∃ k : Nat, k ≤ n ∧ i = .int .i64 k ∧ l = .int .i64 (leastN g k) ∧ RiseP k g (bound - 1)) (fun _ i => n - (intOf i).toNat)
  case atStart => exact ⟨0, Nat.zero_le _, rfl, rfl, fun i hi => by omega⟩
  case round =>
    obtain ⟨k, hk, rfl, rfl, hall⟩ := hrel
    have HALL : Hid (RiseP k g (bound - 1)) := hall
    clear hall
    by_cases hlt : k < n
    · obtain ⟨b, off, rfl, hblt, hcell⟩ := hc (by omega)
      have hck : w.cell? ⟨b, off + k, none⟩ = some (.int .i64 (g k)) := hcell k hlt
      obtain ⟨x, hx⟩ : ∃ x, x = g k := ⟨_, rfl⟩
      have HX : Hid (x = g k) := hx
      rw [← hx] at hck
      obtain ⟨l, hl⟩ : ∃ l, l = leastN g k := ⟨_, rfl⟩
      have HL : Hid (l = leastN g k) := hl
      rw [← hl]
      have hl0 : 0 ≤ l := by
        rw [hl]
        cases k with
        | zero => exact Int.le_refl _
        | succ j =>
          have := (HALL.out j (by omega)).1
          simp only [leastN]
          omega
      clear hc hcell hx hl
      by_cases h1 : x < l
      · have HNO : Hid (¬ RiseP n g (bound - 1)) := fun h => by
          have := rise_least h hlt
          rw [← HX.out, ← HL.out] at this
          omega
        go_wp2
        go_ret
        exact boolNo rfl HNO.out (Below.refl _ _)
      · have e1 : decide (x < l) = false := by simp; omega
        by_cases h2 : bound ≤ x
        · have HNO : Hid (¬ RiseP n g (bound - 1)) := fun h => by
            have := (h k hlt).2.1
            rw [← HX.out] at this
            omega
          clear h1
          go_wp2
          go_ret
          exact boolNo rfl HNO.out (Below.refl _ _)
        · have e2 : decide (bound ≤ x) = false := by simp; omega
          have HRN : Hid (RiseP (k + 1) g (bound - 1)) := rise_next HALL.out (by rw [← HX.out, ← HL.out]; omega) (by rw [← HX.out]; omega)
          have hxb : x ≤ 1000000 := by omega
          have hx0 : 0 ≤ x := by omega
          have HLN : Hid (x + 1 = leastN g (k + 1)) := by show x + 1 = g k + 1; rw [HX.out]
          have wadd : IntKind.i64.wrap (x + 1) = x + 1 := by rw [IntKind.wrap_i64]; omega
          clear h1 h2
          go_wp2
          go_round
          case rel => exact ⟨k + 1, by omega, by go_num, by rw [← HLN.out], HRN.out⟩
          case measure => simp [intOf]; omega
    · obtain rfl : k = n := by omega
      clear hc
      go_wp2
      go_ret
      exact boolYes rfl HALL.out (Below.refl _ _)

set_option maxHeartbeats 4000000 in
theorem implWeights_any (d s want : Int) (v : Value) (m : Nat) (g : Nat → Int) (l1 h1 : Nat) (w : World) (o : OwnI w l1 h1 v m g) (hh : h1 ≤ w.heap.size) :
    Calls Try.prog 9 #[.int .i64 d, .int .i64 s, v, .int .i64 want] w fun ee w' => ∃ x v', ee = .returned (bytesR x v') ∧ WtAns d s m g want x ∧ Own w' w.heap.size w'.heap.size v' (if x = 0 then m else 0) (weightsN d.toNat 0 (fun k => (g k).toNat) want.toNat) ∧ Below w.heap.size w w' := by
  have r := o.rd
  have HR : Hid (RdI w h1 v m g) := r
  obtain ⟨ao, cap, rfl, hm, hxx⟩ := r
  clear hxx o
  unfold maxLen at hm
  go_enter Try.func9, Try.ntmps9
  go_wp2_with fail
  refine (rowInBounds_any d s _).mono ?_
  rintro e w1 ⟨b1, rfl, hb1, b1'⟩
  have HS : Hid (b1 = true ↔ Shp d s) := hb1
  have B1 : Below w.heap.size w w1 := bnew b1'
  have X1 : Box w1 w.heap.size #[.int .i64 0, .slice none 0 0] 25 := (box_new w _ _).below b1' (by simp)
  have z1 : w.heap.size < w1.heap.size := X1.lt
  obtain ⟨x0, x1, y0, y1⟩ := res_cells X1
  clear hb1 b1'
  cases b1 with
  | false =>
    have HNO : Hid (¬ Shp d s) := fun h => by have := HS.out.mpr h; cases this
    clear HS
    go_wp2
    exact bodyPost_ret (v := bytesR 3 (.slice none 0 0)) (by simp [results, Try.results9, go_sem, bytesR, x0, x1]) rfl ⟨3, _, rfl, .inl ⟨rfl, HNO.out⟩, own_nil _ _ _ _, (B1.setCell (Nat.le_refl _) _).setCell (Nat.le_refl _) _⟩
  | true =>
    have hsh := HS.out.mp rfl
    have HSH : Hid (Shp d s) := hsh
    obtain ⟨q1, q2, q3, q4⟩ := hsh
    obtain ⟨D, rfl⟩ : ∃ D : Nat, d = D := ⟨d.toNat, by omega⟩
    obtain ⟨S, rfl⟩ : ∃ S : Nat, s = S := ⟨s.toNat, by omega⟩
    clear HS
    by_cases hlen : m = D
    · subst hlen
      have tl : ((m : Int) != (m : Int)) = false := by simp
      have CR := risesWithin_any (.slice ao m cap) m g h1 ((m : Int) + (S : Int)) (by omega) w1 (HR.out.below B1 hh)
      go_wp2_with fail
      refine CR.mono ?_
      rintro e w2 ⟨b2, rfl, hb2, b2'⟩
      have HRI : Hid (b2 = true ↔ RiseP m g ((m : Int) + (S : Int) - 1)) := hb2
      have B2 : Below w.heap.size w w2 := B1.trans (b2'.mono B1.size)
      have X2 : Box w2 w.heap.size #[.int .i64 0, .slice none 0 0] 25 := X1.below b2' z1
      have z2 : w.heap.size < w2.heap.size := X2.lt
      clear x0 x1 y0 y1
      obtain ⟨x0, x1, y0, y1⟩ := res_cells X2
      clear hb2 b2' X1 B1 z1 CR
      cases b2 with
      | false =>
        have HNO : Hid (¬ RiseP m g ((m : Int) + (S : Int) - 1)) := fun h => by have := HRI.out.mpr h; cases this
        clear HRI
        go_wp2
        exact bodyPost_ret (v := bytesR 1 (.slice none 0 0)) (by simp [results, Try.results9, go_sem, bytesR, x0, x1]) rfl ⟨1, _, rfl, .inr (.inl ⟨rfl, HSH.out, .inr HNO.out⟩), own_nil _ _ _ _, (B2.setCell (Nat.le_refl _) _).setCell (Nat.le_refl _) _⟩
      | true =>
        have HRP : Hid (RiseP m g ((m : Int) + (S : Int) - 1)) := HRI.out.mp rfl
        clear HRI
        by_cases hw0 : want < 0
        · have HNW : Hid (¬ (0 ≤ want ∧ want ≤ (m : Int) + (S : Int) - 1)) := fun h => by omega
          go_wp2
          exact bodyPost_ret (v := bytesR 3 (.slice none 0 0)) (by simp [results, Try.results9, go_sem, bytesR, x0, x1]) rfl ⟨3, _, rfl, .inr (.inr (.inl ⟨rfl, HSH.out, rfl, HRP.out, HNW.out⟩)), own_nil _ _ _ _, (B2.setCell (Nat.le_refl _) _).setCell (Nat.le_refl _) _⟩
        · have tw0 : decide (want < 0) = false := by simp; omega
          by_cases hw1 : (m : Int) + (S : Int) ≤ want
          · have HNW : Hid (¬ (0 ≤ want ∧ want ≤ (m : Int) + (S : Int) - 1)) := fun h => by omega
            clear hw0
            go_wp2
            exact bodyPost_ret (v := bytesR 3 (.slice none 0 0)) (by simp [results, Try.results9, go_sem, bytesR, x0, x1]) rfl ⟨3, _, rfl, .inr (.inr (.inl ⟨rfl, HSH.out, rfl, HRP.out, HNW.out⟩)), own_nil _ _ _ _, (B2.setCell (Nat.le_refl _) _).setCell (Nat.le_refl _) _⟩
          · obtain ⟨W, rfl⟩ : ∃ W : Nat, want = W := ⟨want.toNat, by omega⟩
            have tw1 : decide ((m : Int) + (S : Int) ≤ (W : Int)) = false := by simp; omega
            have hWW : W < m + 2 := by omega
            have HWB : Hid (0 ≤ (W : Int) ∧ (W : Int) ≤ (m : Int) + (S : Int) - 1) := ⟨by omega, by omega⟩
            obtain ⟨n1, n2, n3⟩ := rise_nat HRP.out (rfl : m = m)
            have rN : RdI w2 h1 (.slice ao m cap) m (fun i => (((g i).toNat : Nat) : Int)) := by
              obtain ⟨ao', cap', hv', hm', hc'⟩ := HR.out.below B2 hh
              refine ⟨ao', cap', hv', hm', fun h0 => ?_⟩
              obtain ⟨b, off, h1', h2', h3'⟩ := hc' h0
              exact ⟨b, off, h1', h2', fun i hi => by rw [h3' i hi]; show some (Value.int .i64 (g i)) = some (Value.int .i64 (((g i).toNat : Nat) : Int)); rw [← n1 i hi]⟩
            have CWt := weightsOf_any m W (.slice ao m cap) (fun i => (g i).toNat) h1 w2 rN (Nat.le_trans hh B2.size) (by omega) (by omega) (fun k hk => by have := n2 k hk; show (g k).toNat < m + 2; omega) n3 hWW
            clear n1 n2 n3 rN hw0 hw1 x0 x1 y0 y1
            go_wp2_with fail
            refine CWt.mono ?_
            rintro e w4 ⟨v4, rfl, o4, b4⟩
            obtain ⟨ao4, cap4, rfl⟩ := o4.slice
            have HO : Hid (Own w4 w2.heap.size w4.heap.size (.slice ao4 m cap4) m (weightsN m 0 (fun i => (g i).toNat) W)) := o4
            have B4 : Below w.heap.size w w4 := B2.trans (b4.mono (by omega))
            have X4 : Box w4 w.heap.size #[.int .i64 0, .slice none 0 0] 25 := X2.below b4 z2
            have z4 := X4.lt
            obtain ⟨x0, x1, y0, y1⟩ := res_cells X4
            clear o4 b4 CWt X4 X2
            go_wp2
            refine bodyPost_ret (v := bytesR 0 (.slice ao4 m cap4)) (by simp [results, Try.results9, go_sem, bytesR, x0, x1]) rfl ⟨0, _, rfl, .inr (.inr (.inr ⟨rfl, HSH.out, rfl, HRP.out, HWB.out.1, HWB.out.2⟩)), ?_, (B4.setCell (Nat.le_refl _) _).setCell (Nat.le_refl _) _⟩
            have o1 := out_store w4 w.heap.size (w.heap.size + 1) w.heap.size 0 (.int .i64 0) (Nat.le_refl _) (by omega)
            have o2 := out_store (w4.setCell ⟨w.heap.size, 0, none⟩ (.int .i64 0)) w.heap.size (w.heap.size + 1) w.heap.size 1 (.slice ao4 m cap4) (Nat.le_refl _) (by omega)
            simp only [if_pos]
            rw [Int.toNat_natCast, Int.toNat_natCast]
            exact (HO.out.out (o1.trans o2) (.inr (by omega))).weaken (by omega) (by rw [(o1.trans o2).size]; exact Nat.le_refl _)
    · have tl : ((m : Int) != (D : Int)) = true := by simp; omega
      have HNE : Hid ((m : Int) ≠ (D : Int)) := by show (m : Int) ≠ (D : Int); omega
      clear hlen
      go_wp2
      exact bodyPost_ret (v := bytesR 1 (.slice none 0 0)) (by simp [results, Try.results9, go_sem, bytesR, x0, x1]) rfl ⟨1, _, rfl, .inr (.inl ⟨rfl, HSH.out, .inl HNE.out⟩), own_nil _ _ _ _, (B1.setCell (Nat.le_refl _) _).setCell (Nat.le_refl _) _⟩

end Go.Proofs.Ytdlbbmadjhonjai
