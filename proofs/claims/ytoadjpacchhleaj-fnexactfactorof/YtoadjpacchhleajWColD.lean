/- Walks of the specification's FactorOf and l1Has. -/
import Derived.Test.YtoadjpacchhleajColDefs
import Derived.Test.YtoadjpacchhleajWColA
import Derived.Test.YtoadjpacchhleajWInt
import Derived.Test.YtoadjpacchhleajWInts
namespace Go.Proofs.Ytoadjpacchhleaj
open Go.RowKit F256
set_option linter.unusedVariables false
set_option linter.unusedSimpArgs false

set_option maxHeartbeats 4000000 in
theorem specFactor_any (g c gr p : Int) (w : World) :
    Calls Try.prog 24 #[.int .i64 g, .int .i64 c, .int .i64 gr, .int .i64 p] w fun ee w' => ∃ x v, ee = .returned (intR x v) ∧ FacAns g c gr p x v ∧ Below w.heap.size w w' := by
  go_enter Try.func24, Try.ntmps24
  go_wp2_with fail
  refine (l3Shape_any g c _).mono ?_
  rintro e0 w1 ⟨b1, rfl, hb1, b1'⟩
  have HS : Hid (b1 = true ↔ Shp3 g c) := hb1
  have B1 : Below w.heap.size w w1 := bnew b1'
  have X1 : Box w1 w.heap.size #[.int .i64 0, .int .i64 0] 44 := (box_new w _ _).below b1' (by simp)
  obtain ⟨x0, x1, y0, y1⟩ := res_cells X1
  clear hb1 b1' X1
  cases b1 with
  | false =>
    have HNO : Hid (¬ FacP g c gr p) := fun h => by have := HS.out.mpr h.1; cases this
    clear HS
    go_wp2
    exact bodyPost_ret (v := intR 3 0) (by simp [results, Try.results24, go_sem, intR, x0, x1]) rfl ⟨3, 0, rfl, .inl ⟨rfl, rfl, HNO.out⟩, (B1.setCell (Nat.le_refl _) _).setCell (Nat.le_refl _) _⟩
  | true =>
    have hsh := HS.out.mp rfl
    have HSH : Hid (Shp3 g c) := hsh
    obtain ⟨q1, q2, q3, q4⟩ := hsh
    clear HS
    by_cases hgr : 0 ≤ gr ∧ gr ≤ g - 1
    · have CL := l1In_yes gr 0 (g - 1) hgr.1 hgr.2 w1
      by_cases hp : 0 ≤ p ∧ p ≤ c - 1
      · have CP := l1In_yes p 0 (c - 1) hp.1 hp.2 w1
        have HF : Hid (FacP g c gr p) := ⟨HSH.out, hgr, hp⟩
        obtain ⟨G, rfl⟩ : ∃ G : Nat, gr = G := ⟨gr.toNat, by omega⟩
        obtain ⟨P, rfl⟩ : ∃ P : Nat, p = P := ⟨p.toNat, by omega⟩
        have CC := l1Cauchy_any (8 + P) G (by omega) (by omega) w1
        obtain ⟨Q, hQ⟩ : ∃ Q, Q = 8 + P := ⟨_, rfl⟩
        have e8 : 8 + (P : Int) = (Q : Int) := by omega
        have HQ : Hid (Q = 8 + P) := hQ
        rw [← hQ] at CC
        obtain ⟨y, hy⟩ : ∃ y, y = powN ((128 + Q) ^^^ G) 254 := ⟨_, rfl⟩
        have hyl : y < 256 := by rw [hy]; exact powN_lt _
        have HY : Hid (y = powN ((128 + Q) ^^^ G) 254) := hy
        rw [← hy] at CC
        have hPb : P ≤ 1 := by omega
        have hQb : Q ≤ 9 := by omega
        have hGb : G ≤ 3 := by omega
        clear hgr hp hy hQ
        go_wp2_with fail
        refine CL.mono ?_
        rintro e0 w2 ⟨rfl, hw2⟩
        obtain rfl := hw2.symm
        clear CL
        go_wp2_with fail
        refine CP.mono ?_
        rintro e0 w2 ⟨rfl, hw2⟩
        obtain rfl := hw2.symm
        clear CP
        go_wp2_with fail
        refine CC.mono ?_
        rintro e0 w2 ⟨rfl, hw2⟩
        obtain rfl := hw2.symm
        clear CC
        go_wp2
        exact bodyPost_ret (v := intR 0 y) (by simp [results, Try.results24, go_sem, intR, x0, x1]) rfl ⟨0, y, rfl, .inr ⟨rfl, HF.out, by rw [Int.toNat_natCast, Int.toNat_natCast, ← HQ.out, ← HY.out]⟩, (B1.setCell (Nat.le_refl _) _).setCell (Nat.le_refl _) _⟩
      · have CP := l1In_no p 0 (c - 1) (by omega) w1
        have HNO : Hid (¬ FacP g c gr p) := fun h => hp h.2.2
        clear hgr hp
        go_wp2_with fail
        refine CL.mono ?_
        rintro e0 w2 ⟨rfl, hw2⟩
        obtain rfl := hw2.symm
        clear CL
        go_wp2_with fail
        refine CP.mono ?_
        rintro e0 w2 ⟨rfl, hw2⟩
        obtain rfl := hw2.symm
        clear CP
        go_wp2
        exact bodyPost_ret (v := intR 3 0) (by simp [results, Try.results24, go_sem, intR, x0, x1]) rfl ⟨3, 0, rfl, .inl ⟨rfl, rfl, HNO.out⟩, (B1.setCell (Nat.le_refl _) _).setCell (Nat.le_refl _) _⟩
    · have CL := l1In_no gr 0 (g - 1) (by omega) w1
      have HNO : Hid (¬ FacP g c gr p) := fun h => hgr h.2.1
      clear hgr
      go_wp2_with fail
      refine CL.mono ?_
      rintro e0 w2 ⟨rfl, hw2⟩
      obtain rfl := hw2.symm
      clear CL
      go_wp2
      exact bodyPost_ret (v := intR 3 0) (by simp [results, Try.results24, go_sem, intR, x0, x1]) rfl ⟨3, 0, rfl, .inl ⟨rfl, rfl, HNO.out⟩, (B1.setCell (Nat.le_refl _) _).setCell (Nat.le_refl _) _⟩

set_option maxHeartbeats 1000000 in
theorem l1Has_any (v : Value) (n : Nat) (g : Nat → Int) (hi : Nat) (x : Int) (w : World) (r : RdI w hi v n g) :
    Calls Try.prog 35 #[v, .int .i64 x] w (BoolP (HasP n g x) w) := by
  obtain ⟨ao, cap, rfl, hm, hc⟩ := r
  unfold maxLen at hm
  go_enter Try.func35, Try.ntmps35
  go_wp2
  go_loop [5] (fun i => ∃ k : Nat, k ≤ n ∧ i = .int .i64 k ∧ ∀ i, i < k → g i ≠ x) (fun i => n - (intOf i).toNat)
  case atStart => exact ⟨0, Nat.zero_le _, rfl, fun i hi => by omega⟩
  case round =>
    obtain ⟨k, hk, rfl, hall⟩ := hrel
    have HALL : Hid (∀ i, i < k → g i ≠ x) := hall
    clear hall
    by_cases hlt : k < n
    · obtain ⟨b, off, rfl, hblt, hcell⟩ := hc (by omega)
      have hck : w.cell? ⟨b, off + k, none⟩ = some (.int .i64 (g k)) := hcell k hlt
      obtain ⟨y, hy⟩ : ∃ y, y = g k := ⟨_, rfl⟩
      have HY : Hid (y = g k) := hy
      rw [← hy] at hck
      clear hc hcell hy
      by_cases heq : y = x
      · have tn : (y == x) = true := by simp [heq]
        have HE : Hid (y = x) := heq
        clear heq
        go_wp2
        go_ret
        exact boolYes rfl ⟨k, hlt, by rw [← HY.out]; exact HE.out⟩ (Below.refl _ _)
      · have tn : (y == x) = false := by simp [heq]
        have HE : Hid (y ≠ x) := heq
        clear heq
        go_wp2
        go_round
        case rel => exact ⟨k + 1, by omega, by go_num, fun i hi => by
                      by_cases c : i = k
                      · rw [c, ← HY.out]; exact HE.out
                      · exact HALL.out i (by omega)⟩
        case measure => simp [intOf]; omega
    · obtain rfl : k = n := by omega
      go_wp2
      go_ret
      exact boolNo rfl (fun ⟨i, hi, h⟩ => HALL.out i hi h) (Below.refl _ _)
end Go.Proofs.Ytoadjpacchhleaj
