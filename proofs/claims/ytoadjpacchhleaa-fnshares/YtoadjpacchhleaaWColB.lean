/- Walks of the specification's EncodeColumn, FactorOf and AddShare. -/
import Derived.Test.YtoadjpacchhleaaColDefs
import Derived.Test.YtoadjpacchhleaaWColA
import Derived.Test.YtoadjpacchhleaaWOwnB
import Derived.Test.YtoadjpacchhleaaWInt
namespace Go.Proofs.Ytoadjpacchhleaa
open Go.RowKit F256
set_option linter.unusedVariables false
set_option linter.unusedSimpArgs false

set_option maxHeartbeats 4000000 in
theorem specEncodeC_any (v : Value) (R : Nat) (n : Nat → Nat) (f : Mat) (c : Int) (h1 : Nat) (w : World) (r : RdM w h1 v R n f) (hh : h1 ≤ w.heap.size) (kf : Byt f) :
    Calls Try.prog 30 #[v, .int .i64 c] w fun ee w' => ∃ x v', ee = .returned (bytesR x v') ∧ CeAns R n c x ∧ OwnB w' w.heap.size w'.heap.size v' (if x = 0 then c.toNat else 0) (fun _ => n 0) (parN R f) ∧ Below w.heap.size w w' := by
  have HR : Hid (RdM w h1 v R n f) := r
  obtain ⟨ao, cap, e, rfl, hm, hc, he⟩ := r
  have HHE : Hid (∀ i, i < R → Rd w h1 (e i) (n i) (f i)) := he
  have HHC : Hid (R ≠ 0 → ∃ b off, ao = some ⟨b, off, none⟩ ∧ b < h1 ∧ ∀ i, i < R → w.cell? ⟨b, off + i, none⟩ = some (e i)) := hc
  unfold maxLen at hm
  clear hc he
  go_enter Try.func30, Try.ntmps30
  go_wp2_with fail
  refine (l3Shape_any R c _).mono ?_
  rintro e0 w1 ⟨b1, rfl, hb1, b1'⟩
  have HS : Hid (b1 = true ↔ Shp3 R c) := hb1
  have B1 : Below w.heap.size w w1 := bnew b1'
  have X1 : Box w1 w.heap.size #[.int .i64 0, .slice none 0 0] 53 := (box_new w _ _).below b1' (by simp)
  have z1 : w.heap.size < w1.heap.size := X1.lt
  obtain ⟨x0, x1, y0, y1⟩ := res_cells X1
  clear hb1 b1'
  cases b1 with
  | false =>
    have HNO : Hid (¬ Shp3 R c) := fun h => by have := HS.out.mpr h; cases this
    clear HS
    go_wp2
    exact bodyPost_ret (v := bytesR 3 (.slice none 0 0)) (by simp [results, Try.results30, go_sem, bytesR, x0, x1]) rfl ⟨3, _, rfl, .inl ⟨rfl, HNO.out⟩, OwnB.none _ _ _ _ _, (B1.setCell (Nat.le_refl _) _).setCell (Nat.le_refl _) _⟩
  | true =>
    have hsh := HS.out.mp rfl
    have HSH : Hid (Shp3 R c) := hsh
    obtain ⟨q1, q2, q3, q4⟩ := hsh
    obtain ⟨C, rfl⟩ : ∃ C : Nat, c = C := ⟨c.toNat, by omega⟩
    have CE := l3Even_any (.slice ao R cap) R n f h1 w1 (HR.out.below B1 hh)
    clear HS x0 x1 y0 y1
    go_wp2_with fail
    refine CE.mono ?_
    rintro e0 w2 ⟨b2, rfl, hb2, b2'⟩
    have HE2 : Hid (b2 = true ↔ EvenP R n) := hb2
    have B2 : Below w.heap.size w w2 := B1.trans (b2'.mono B1.size)
    have X2 : Box w2 w.heap.size #[.int .i64 0, .slice none 0 0] 53 := X1.below b2' z1
    have z2 : w.heap.size < w2.heap.size := X2.lt
    obtain ⟨x0, x1, y0, y1⟩ := res_cells X2
    clear hb2 b2' X1 B1 z1 CE
    cases b2 with
    | false =>
      have HNO : Hid (¬ EvenP R n) := fun h => by have := HE2.out.mpr h; cases this
      clear HE2
      go_wp2
      exact bodyPost_ret (v := bytesR 1 (.slice none 0 0)) (by simp [results, Try.results30, go_sem, bytesR, x0, x1]) rfl ⟨1, _, rfl, .inr (.inl ⟨rfl, HSH.out, HNO.out⟩), OwnB.none _ _ _ _ _, (B2.setCell (Nat.le_refl _) _).setCell (Nat.le_refl _) _⟩
    | true =>
      have HEV : Hid (EvenP R n) := HE2.out.mp rfl
      obtain ⟨b, off, hao, hblt, hcell⟩ := HHC.out (by omega)
      subst hao
      have c0 : w2.cell? ⟨b, off, none⟩ = some (e 0) := (B2.cell (p := ⟨b, off, none⟩) (by show b < w.heap.size; omega)).trans (hcell 0 (by omega))
      obtain ⟨ao0, cap0, hs0, hm0, hq0⟩ := HHE.out 0 (by omega)
      obtain ⟨N, hN⟩ : ∃ N, N = n 0 := ⟨_, rfl⟩
      have HN : Hid (N = n 0) := hN
      rw [hs0, ← hN] at c0
      rw [← hN] at hm0
      unfold maxLen at hm0
      clear HE2 hs0 hq0 hcell hN
      by_cases hbig : 4000 < N
      · have tb : (4000 : Int) < (N : Int) := by omega
        go_wp2
        exact bodyPost_ret (v := bytesR 2 (.slice none 0 0)) (by simp [results, Try.results30, go_sem, bytesR, x0, x1]) rfl ⟨2, _, rfl, .inr (.inr (.inl ⟨rfl, HSH.out, HEV.out, by rw [← HN.out]; exact hbig⟩)), OwnB.none _ _ _ _ _, (B2.setCell (Nat.le_refl _) _).setCell (Nat.le_refl _) _⟩
      · have tb : decide ((4000 : Int) < (N : Int)) = false := by simp; omega
        have CX := l3Encode_any (.slice (some ⟨b, off, none⟩) R cap) R C N n f h1 w2 (HR.out.below B2 hh) (Nat.le_trans hh B2.size) (by omega) (by omega) (by omega) (fun i hi => by rw [HEV.out i hi, ← HN.out]) (by omega) kf
        clear x0 x1 y0 y1
        go_wp2_with fail
        refine CX.mono ?_
        rintro e0 w4 ⟨v4, rfl, om, b4⟩
        have hsl : ∃ ao cap, v4 = .slice ao C cap := by
          obtain ⟨g, cap, e, h⟩ := om
          exact ⟨_, _, h.val⟩
        obtain ⟨ao4, cap4, rfl⟩ := hsl
        have HOM : Hid (OwnM w4 w2.heap.size w4.heap.size (.slice ao4 C cap4) C (fun _ => N) (parN R f)) := om
        have B4 : Below w.heap.size w w4 := B2.trans (b4.mono (by omega))
        have X4 : Box w4 w.heap.size #[.int .i64 0, .slice none 0 0] 53 := X2.below b4 z2
        have z4 := X4.lt
        obtain ⟨x0, x1, y0, y1⟩ := res_cells X4
        clear om b4 CX X4 X2 c0
        go_wp2
        refine bodyPost_ret (v := bytesR 0 (.slice ao4 C cap4)) (by simp [results, Try.results30, go_sem, bytesR, x0, x1]) rfl ⟨0, _, rfl, .inr (.inr (.inr ⟨rfl, HSH.out, HEV.out, by rw [← HN.out]; omega⟩)), ?_, (B4.setCell (Nat.le_refl _) _).setCell (Nat.le_refl _) _⟩
        have o1 := out_store w4 w.heap.size (w.heap.size + 1) w.heap.size 0 (.int .i64 0) (Nat.le_refl _) (by omega)
        have o2 := out_store (w4.setCell ⟨w.heap.size, 0, none⟩ (.int .i64 0)) w.heap.size (w.heap.size + 1) w.heap.size 1 (.slice ao4 C cap4) (Nat.le_refl _) (by omega)
        simp only [if_pos]
        rw [Int.toNat_natCast, ← HN.out]
        exact .inr ((HOM.out.out (o1.trans o2) (.inr (by omega))).weaken (by omega) (by rw [(o1.trans o2).size]; exact Nat.le_refl _))
end Go.Proofs.Ytoadjpacchhleaa
