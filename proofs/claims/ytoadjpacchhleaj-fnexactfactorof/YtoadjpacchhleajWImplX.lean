/- Walk of the program's FactorOf. -/
import Derived.Test.YtoadjpacchhleajWImplL
import Derived.Test.YtoadjpacchhleajWInt
namespace Go.Proofs.Ytoadjpacchhleaj
open Go.RowKit F256
set_option linter.unusedVariables false
set_option linter.unusedSimpArgs false

set_option maxHeartbeats 4000000 in
theorem implFactor_any (g c gr p : Int) (w : World) :
    Calls Try.prog 25 #[.int .i64 g, .int .i64 c, .int .i64 gr, .int .i64 p] w fun ee w' => ∃ x v, ee = .returned (intR x v) ∧ FacAns g c gr p x v ∧ Below w.heap.size w w' := by
  go_enter Try.func25, Try.ntmps25
  go_wp2_with fail
  refine (columnInBounds_any g c _).mono ?_
  rintro e0 w1 ⟨b1, rfl, hb1, b1'⟩
  have HS : Hid (b1 = true ↔ Shp3 g c) := hb1
  have B1 : Below w.heap.size w w1 := bnew b1'
  have X1 : Box w1 w.heap.size #[.int .i64 0, .int .i64 0] 44 := (box_new w _ _).below b1' (by simp)
  obtain ⟨x0, x1, y0, y1⟩ := res_cells X1
  clear hb1 b1'
  cases b1 with
  | false =>
    have HNO : Hid (¬ FacP g c gr p) := fun h => by have := HS.out.mpr h.1; cases this
    clear HS
    go_wp2
    exact bodyPost_ret (v := intR 3 0) (by simp [results, Try.results25, go_sem, intR, x0, x1]) rfl ⟨3, 0, rfl, .inl ⟨rfl, rfl, HNO.out⟩, (B1.setCell (Nat.le_refl _) _).setCell (Nat.le_refl _) _⟩
  | true =>
    have hsh := HS.out.mp rfl
    have HSH : Hid (Shp3 g c) := hsh
    obtain ⟨q1, q2, q3, q4⟩ := hsh
    clear HS
    by_cases h1 : gr < 0
    · have HNO : Hid (¬ FacP g c gr p) := fun h => by have := h.2.1.1; omega
      go_wp2
      exact bodyPost_ret (v := intR 3 0) (by simp [results, Try.results25, go_sem, intR, x0, x1]) rfl ⟨3, 0, rfl, .inl ⟨rfl, rfl, HNO.out⟩, (B1.setCell (Nat.le_refl _) _).setCell (Nat.le_refl _) _⟩
    have t1 : decide (gr < 0) = false := by simp; omega
    by_cases h2 : g ≤ gr
    · have HNO : Hid (¬ FacP g c gr p) := fun h => by have := h.2.1.2; omega
      clear h1
      go_wp2
      exact bodyPost_ret (v := intR 3 0) (by simp [results, Try.results25, go_sem, intR, x0, x1]) rfl ⟨3, 0, rfl, .inl ⟨rfl, rfl, HNO.out⟩, (B1.setCell (Nat.le_refl _) _).setCell (Nat.le_refl _) _⟩
    have t2 : decide (g ≤ gr) = false := by simp; omega
    by_cases h3 : p < 0
    · have HNO : Hid (¬ FacP g c gr p) := fun h => by have := h.2.2.1; omega
      clear h1 h2
      go_wp2
      exact bodyPost_ret (v := intR 3 0) (by simp [results, Try.results25, go_sem, intR, x0, x1]) rfl ⟨3, 0, rfl, .inl ⟨rfl, rfl, HNO.out⟩, (B1.setCell (Nat.le_refl _) _).setCell (Nat.le_refl _) _⟩
    have t3 : decide (p < 0) = false := by simp; omega
    by_cases h4 : c ≤ p
    · have HNO : Hid (¬ FacP g c gr p) := fun h => by have := h.2.2.2; omega
      clear h1 h2 h3
      go_wp2
      exact bodyPost_ret (v := intR 3 0) (by simp [results, Try.results25, go_sem, intR, x0, x1]) rfl ⟨3, 0, rfl, .inl ⟨rfl, rfl, HNO.out⟩, (B1.setCell (Nat.le_refl _) _).setCell (Nat.le_refl _) _⟩
    have t4 : decide (c ≤ p) = false := by simp; omega
    have HF : Hid (FacP g c gr p) := ⟨HSH.out, ⟨by omega, by omega⟩, ⟨by omega, by omega⟩⟩
    obtain ⟨G, rfl⟩ : ∃ G : Nat, gr = G := ⟨gr.toNat, by omega⟩
    obtain ⟨P, rfl⟩ : ∃ P : Nat, p = P := ⟨p.toNat, by omega⟩
    obtain ⟨D, rfl⟩ : ∃ D : Nat, g = D := ⟨g.toNat, by omega⟩
    have CF := factorsFrom_any 8 D (D + P) 136 rfl (by omega) (by omega) (by omega) w1
    have eDP : ((D + P : Nat) : Int) = (D : Int) + (P : Int) := by simp
    have e136 : ((136 : Nat) : Int) = 136 := rfl
    rw [eDP, e136] at CF
    have hGD : G < D := by omega
    have hPb : P ≤ 1 := by omega
    obtain ⟨y, hy⟩ : ∃ y, y = genN D (D + P) 8 G := ⟨_, rfl⟩
    have hyl : y < 256 := by rw [hy]; exact genN_lt D (D + P) 8 G
    have HY : Hid (y = powN ((128 + (8 + P)) ^^^ G) 254) := by
      show y = powN ((128 + (8 + P)) ^^^ G) 254
      rw [hy]
      simp only [genN, if_pos (show D ≤ D + P by omega)]
      rw [show 8 + (D + P) - D = 8 + P by omega]
    have HYG : Hid (y = genN D (D + P) 8 G) := hy
    have z1 := X1.lt
    clear h1 h2 h3 h4 hy x0 x1 y0 y1
    go_wp2_with fail
    refine CF.mono ?_
    rintro e0 w2 ⟨v2, rfl, o2, b2⟩
    obtain ⟨gv, capv, hgv, g1, g2, g3, g4⟩ := o2.form (by omega)
    subst hgv
    have c1 : w2.cell? ⟨gv, G, none⟩ = some (.int .u8 y) := by rw [HYG.out]; exact (o2.1.cellAt G (by omega)).trans (cellsOf_get _ _ _ hGD)
    have B2 : Below w.heap.size w w2 := B1.trans (b2.mono B1.size)
    have X2 : Box w2 w.heap.size #[.int .i64 0, .int .i64 0] 44 := X1.below b2 z1
    obtain ⟨x0, x1, y0, y1⟩ := res_cells X2
    clear CF o2 b2 X1 X2
    go_wp2
    exact bodyPost_ret (v := intR 0 y) (by simp [results, Try.results25, go_sem, intR, x0, x1]) rfl ⟨0, y, rfl, .inr ⟨rfl, HF.out, by rw [Int.toNat_natCast, Int.toNat_natCast, ← HY.out]⟩, (B2.setCell (Nat.le_refl _) _).setCell (Nat.le_refl _) _⟩
end Go.Proofs.Ytoadjpacchhleaj
