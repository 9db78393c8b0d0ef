/- Walks of the program's DecodeRow and BlockOf. -/
import Derived.Test.YtdlbbmadjhonjaiWImplG
import Derived.Test.YtdlbbmadjhonjaiWRowL
namespace Go.Proofs.Ytdlbbmadjhonjai
open Go.RowKit F256
set_option linter.unusedVariables false
set_option linter.unusedSimpArgs false

theorem not_there {R : Nat} {n : Nat → Nat} {N : Int} (h : ¬ ThereP R n N) : (R : Int) ≠ N ∨ ∃ i, i < R ∧ n i ≠ 0 ∧ n i ≠ 4 := by
  by_cases c : (R : Int) = N
  · right
    refine Classical.byContradiction fun hh => h ⟨c, fun i hi => ?_⟩
    by_cases c0 : n i = 0
    · exact .inl c0
    · by_cases c4 : n i = 4
      · exact .inr c4
      · exact absurd ⟨i, hi, c0, c4⟩ hh
  · exact .inl c

set_option maxHeartbeats 4000000 in
theorem implDecode_any (d s : Int) (v : Value) (R : Nat) (n : Nat → Nat) (f : Mat) (l1 h1 : Nat) (w : World) (o : OwnM w l1 h1 v R n f) (hh : h1 ≤ w.heap.size) (kf : Byt f) :
    Calls Try.prog 18 #[.int .i64 d, .int .i64 s, v] w fun ee w' => ∃ x v', ee = .returned (bytesR x v') ∧ DecAns d s R n x ∧ Own w' w.heap.size w'.heap.size v' (if x = 0 then 4 * d.toNat else 0) (decN d.toNat n R f) ∧ Below w.heap.size w w' := by
  have r := o.rd
  have HR : Hid (RdM w h1 v R n f) := r
  obtain ⟨ao, cap, e, rfl, hm, hc, he⟩ := r
  clear hm hc he o
  go_enter Try.func18, Try.ntmps18
  go_wp2_with fail
  refine (rowInBounds_any d s _).mono ?_
  rintro e0 w1 ⟨b1, rfl, hb1, b1'⟩
  have HS : Hid (b1 = true ↔ Shp d s) := hb1
  have B1 : Below w.heap.size w w1 := bnew b1'
  have X1 : Box w1 w.heap.size #[.int .i64 0, .slice none 0 0] 25 := (box_new w _ _).below b1' (by simp)
  have z1 : w.heap.size < w1.heap.size := X1.lt
  obtain ⟨x0, x1, y0, y1⟩ := res_cells X1
  clear hb1 b1'
  cases b1 with
  | false =>
    have HNO : Hid (¬ Shp d s) := fun h => by have := HS.out.mpr h; cases this
    clear HS
    go_wp2
    exact bodyPost_ret (v := bytesR 3 (.slice none 0 0)) (by simp [results, Try.results18, go_sem, bytesR, x0, x1]) rfl ⟨3, _, rfl, .inl ⟨.inl ⟨rfl, HNO.out⟩, by omega⟩, own_nil _ _ _ _, (B1.setCell (Nat.le_refl _) _).setCell (Nat.le_refl _) _⟩
  | true =>
    have hsh := HS.out.mp rfl
    have HSH : Hid (Shp d s) := hsh
    obtain ⟨q1, q2, q3, q4⟩ := hsh
    obtain ⟨D, rfl⟩ : ∃ D : Nat, d = D := ⟨d.toNat, by omega⟩
    obtain ⟨S, rfl⟩ : ∃ S : Nat, s = S := ⟨s.toNat, by omega⟩
    have CT := thereOrNot_any (.slice ao R cap) R n f h1 ((D : Int) + (S : Int)) w1 (HR.out.below B1 hh)
    clear HS
    go_wp2_with fail
    refine CT.mono ?_
    rintro e0 w2 ⟨b2, rfl, hb2, b2'⟩
    have HT : Hid (b2 = true ↔ ThereP R n ((D : Int) + (S : Int))) := hb2
    have B2 : Below w.heap.size w w2 := B1.trans (b2'.mono B1.size)
    have X2 : Box w2 w.heap.size #[.int .i64 0, .slice none 0 0] 25 := X1.below b2' z1
    have z2 : w.heap.size < w2.heap.size := X2.lt
    clear x0 x1 y0 y1
    obtain ⟨x0, x1, y0, y1⟩ := res_cells X2
    clear hb2 b2' X1 B1 z1 CT
    cases b2 with
    | false =>
      have HNO : Hid ((R : Int) ≠ (D : Int) + (S : Int) ∨ ∃ i, i < R ∧ n i ≠ 0 ∧ n i ≠ 4) := not_there fun h => by have := HT.out.mpr h; cases this
      clear HT
      go_wp2
      exact bodyPost_ret (v := bytesR 1 (.slice none 0 0)) (by simp [results, Try.results18, go_sem, bytesR, x0, x1]) rfl ⟨1, _, rfl, .inl ⟨.inr (.inl ⟨rfl, HSH.out, HNO.out⟩), by omega⟩, own_nil _ _ _ _, (B2.setCell (Nat.le_refl _) _).setCell (Nat.le_refl _) _⟩
    | true =>
      have HTH : Hid (ThereP R n ((D : Int) + (S : Int))) := HT.out.mp rfl
      have HASK : Hid (AskP (D : Int) (S : Int) R n 0) := .inr (.inr ⟨rfl, HSH.out, HTH.out.1, HTH.out.2⟩)
      have CF := firstThere_any D (.slice ao R cap) R n f h1 w2 (HR.out.below B2 hh) (Nat.le_trans hh B2.size) (by omega)
      clear HT x0 x1 y0 y1
      go_wp2_with fail
      refine CF.mono ?_
      rintro e0 w3 ⟨v3, rfl, o3, b3'⟩
      have B3 : Below w.heap.size w w3 := B2.trans (b3'.mono B2.size)
      have X3 : Box w3 w.heap.size #[.int .i64 0, .slice none 0 0] 25 := X2.below b3' z2
      have z3 : w.heap.size < w3.heap.size := X3.lt
      obtain ⟨x0, x1, y0, y1⟩ := res_cells X3
      clear b3' X2 B2 z2 CF
      by_cases hcnt : D ≤ cntN n R
      · have HCN : Hid (D ≤ cntN n R) := hcnt
        rw [pickN_all hcnt] at o3
        obtain ⟨ao3, cap3, rfl⟩ := o3.slice
        have CB := bytesFrom_any D (.slice ao R cap) (.slice ao3 D cap3) R n f h1 w3.heap.size w3 (HR.out.below B3 hh) o3.rd (Nat.le_trans hh B3.size) (Nat.le_refl _) (by omega) (by omega) (by have := HTH.out.1; omega) hcnt HTH.out.2 kf
        clear o3 hcnt x0 x1 y0 y1
        go_wp2_with fail
        refine CB.mono ?_
        rintro e0 w4 ⟨v4, rfl, o4, b4⟩
        obtain ⟨ao4, cap4, rfl⟩ := o4.slice
        have HO : Hid (Own w4 w3.heap.size w4.heap.size (.slice ao4 (4 * D) cap4) (4 * D) (decN D n R f)) := o4
        have B4 : Below w.heap.size w w4 := B3.trans (b4.mono (by omega))
        have X4 : Box w4 w.heap.size #[.int .i64 0, .slice none 0 0] 25 := X3.below b4 z3
        have z4 := X4.lt
        obtain ⟨x0, x1, y0, y1⟩ := res_cells X4
        clear o4 b4 CB X4 X3
        go_wp2
        refine bodyPost_ret (v := bytesR 0 (.slice ao4 (4 * D) cap4)) (by simp [results, Try.results18, go_sem, bytesR, x0, x1]) rfl ⟨0, _, rfl, .inr (.inr ⟨HASK.out, by rw [Int.toNat_natCast]; exact HCN.out, rfl⟩), ?_, (B4.setCell (Nat.le_refl _) _).setCell (Nat.le_refl _) _⟩
        have o1 := out_store w4 w.heap.size (w.heap.size + 1) w.heap.size 0 (.int .i64 0) (Nat.le_refl _) (by omega)
        have o2 := out_store (w4.setCell ⟨w.heap.size, 0, none⟩ (.int .i64 0)) w.heap.size (w.heap.size + 1) w.heap.size 1 (.slice ao4 (4 * D) cap4) (Nat.le_refl _) (by omega)
        simp only [if_pos]
        rw [Int.toNat_natCast]
        exact (HO.out.out (o1.trans o2) (.inr (by omega))).weaken (by omega) (by rw [(o1.trans o2).size]; exact Nat.le_refl _)
      · have HNC : Hid (¬ D ≤ cntN n R) := hcnt
        have hpf := pickN_few hcnt
        obtain ⟨c, hc⟩ : ∃ c, c = pickN D n R := ⟨_, rfl⟩
        rw [← hc] at o3 hpf
        obtain ⟨ao3, cap3, rfl⟩ := o3.slice
        have hci : (c : Int) < (D : Int) := by omega
        clear o3 hcnt hc
        go_wp2
        exact bodyPost_ret (v := bytesR 10 (.slice none 0 0)) (by simp [results, Try.results18, go_sem, bytesR, x0, x1]) rfl ⟨10, _, rfl, .inr (.inl ⟨HASK.out, by rw [Int.toNat_natCast]; exact HNC.out, rfl⟩), own_nil _ _ _ _, (B3.setCell (Nat.le_refl _) _).setCell (Nat.le_refl _) _⟩

set_option maxHeartbeats 4000000 in
theorem implBlockOf_any (d s want : Int) (v : Value) (R : Nat) (n : Nat → Nat) (f : Mat) (l1 h1 : Nat) (w : World) (o : OwnM w l1 h1 v R n f) (hh : h1 ≤ w.heap.size) (kf : Byt f) :
    Calls Try.prog 22 #[.int .i64 d, .int .i64 s, v, .int .i64 want] w fun ee w' => ∃ x v', ee = .returned (bytesR x v') ∧ BofAns d s R n want x ∧ Own w' w.heap.size w'.heap.size v' (if x = 0 then 4 else 0) (blockN d.toNat n R f want.toNat) ∧ Below w.heap.size w w' := by
  have r := o.rd
  have HR : Hid (RdM w h1 v R n f) := r
  obtain ⟨ao, cap, e, rfl, hm, hc, he⟩ := r
  clear hm hc he o
  go_enter Try.func22, Try.ntmps22
  go_wp2_with fail
  refine (rowInBounds_any d s _).mono ?_
  rintro e0 w1 ⟨b1, rfl, hb1, b1'⟩
  have HS : Hid (b1 = true ↔ Shp d s) := hb1
  have B1 : Below w.heap.size w w1 := bnew b1'
  have X1 : Box w1 w.heap.size #[.int .i64 0, .slice none 0 0] 25 := (box_new w _ _).below b1' (by simp)
  have z1 : w.heap.size < w1.heap.size := X1.lt
  obtain ⟨x0, x1, y0, y1⟩ := res_cells X1
  clear hb1 b1'
  cases b1 with
  | false =>
    have HNO : Hid (¬ Shp d s) := fun h => by have := HS.out.mpr h; cases this
    clear HS
    go_wp2
    exact bodyPost_ret (v := bytesR 3 (.slice none 0 0)) (by simp [results, Try.results22, go_sem, bytesR, x0, x1]) rfl ⟨3, _, rfl, .inl ⟨.inl ⟨rfl, HNO.out⟩, by omega⟩, own_nil _ _ _ _, (B1.setCell (Nat.le_refl _) _).setCell (Nat.le_refl _) _⟩
  | true =>
    have hsh := HS.out.mp rfl
    have HSH : Hid (Shp d s) := hsh
    obtain ⟨q1, q2, q3, q4⟩ := hsh
    obtain ⟨D, rfl⟩ : ∃ D : Nat, d = D := ⟨d.toNat, by omega⟩
    obtain ⟨S, rfl⟩ : ∃ S : Nat, s = S := ⟨s.toNat, by omega⟩
    have CT := thereOrNot_any (.slice ao R cap) R n f h1 ((D : Int) + (S : Int)) w1 (HR.out.below B1 hh)
    clear HS
    go_wp2_with fail
    refine CT.mono ?_
    rintro e0 w2 ⟨b2, rfl, hb2, b2'⟩
    have HT : Hid (b2 = true ↔ ThereP R n ((D : Int) + (S : Int))) := hb2
    have B2 : Below w.heap.size w w2 := B1.trans (b2'.mono B1.size)
    have X2 : Box w2 w.heap.size #[.int .i64 0, .slice none 0 0] 25 := X1.below b2' z1
    have z2 : w.heap.size < w2.heap.size := X2.lt
    clear x0 x1 y0 y1
    obtain ⟨x0, x1, y0, y1⟩ := res_cells X2
    clear hb2 b2' X1 B1 z1 CT
    cases b2 with
    | false =>
      have HNO : Hid ((R : Int) ≠ (D : Int) + (S : Int) ∨ ∃ i, i < R ∧ n i ≠ 0 ∧ n i ≠ 4) := not_there fun h => by have := HT.out.mpr h; cases this
      clear HT
      go_wp2
      exact bodyPost_ret (v := bytesR 1 (.slice none 0 0)) (by simp [results, Try.results22, go_sem, bytesR, x0, x1]) rfl ⟨1, _, rfl, .inl ⟨.inr (.inl ⟨rfl, HSH.out, HNO.out⟩), by omega⟩, own_nil _ _ _ _, (B2.setCell (Nat.le_refl _) _).setCell (Nat.le_refl _) _⟩
    | true =>
      have HTH : Hid (ThereP R n ((D : Int) + (S : Int))) := HT.out.mp rfl
      have HASK : Hid (AskP (D : Int) (S : Int) R n 0) := .inr (.inr ⟨rfl, HSH.out, HTH.out.1, HTH.out.2⟩)
      clear HT
      by_cases hw0 : want < 0
      · have HNW : Hid (¬ (0 ≤ want ∧ want ≤ (D : Int) + (S : Int) - 1)) := fun h => by omega
        go_wp2
        exact bodyPost_ret (v := bytesR 3 (.slice none 0 0)) (by simp [results, Try.results22, go_sem, bytesR, x0, x1]) rfl ⟨3, _, rfl, .inr (.inl ⟨HASK.out, HNW.out, rfl⟩), own_nil _ _ _ _, (B2.setCell (Nat.le_refl _) _).setCell (Nat.le_refl _) _⟩
      · have tw0 : decide (want < 0) = false := by simp; omega
        by_cases hw1 : (D : Int) + (S : Int) ≤ want
        · have HNW : Hid (¬ (0 ≤ want ∧ want ≤ (D : Int) + (S : Int) - 1)) := fun h => by omega
          clear hw0
          go_wp2
          exact bodyPost_ret (v := bytesR 3 (.slice none 0 0)) (by simp [results, Try.results22, go_sem, bytesR, x0, x1]) rfl ⟨3, _, rfl, .inr (.inl ⟨HASK.out, HNW.out, rfl⟩), own_nil _ _ _ _, (B2.setCell (Nat.le_refl _) _).setCell (Nat.le_refl _) _⟩
        · obtain ⟨W, rfl⟩ : ∃ W : Nat, want = W := ⟨want.toNat, by omega⟩
          have tw1 : decide ((D : Int) + (S : Int) ≤ (W : Int)) = false := by simp; omega
          have hWW : W < D + 2 := by omega
          have HW : Hid (0 ≤ (W : Int) ∧ (W : Int) ≤ (D : Int) + (S : Int) - 1) := ⟨by omega, by omega⟩
          have CF := firstThere_any D (.slice ao R cap) R n f h1 w2 (HR.out.below B2 hh) (Nat.le_trans hh B2.size) (by omega)
          clear x0 x1 y0 y1 hw0 hw1
          go_wp2_with fail
          refine CF.mono ?_
          rintro e0 w3 ⟨v3, rfl, o3, b3'⟩
          have B3 : Below w.heap.size w w3 := B2.trans (b3'.mono B2.size)
          have X3 : Box w3 w.heap.size #[.int .i64 0, .slice none 0 0] 25 := X2.below b3' z2
          have z3 : w.heap.size < w3.heap.size := X3.lt
          obtain ⟨x0, x1, y0, y1⟩ := res_cells X3
          clear b3' X2 B2 z2 CF
          by_cases hcnt : D ≤ cntN n R
          · have HCN : Hid (D ≤ cntN n R) := hcnt
            rw [pickN_all hcnt] at o3
            obtain ⟨ao3, cap3, rfl⟩ := o3.slice
            have CB := blockFrom_any D W (.slice ao R cap) (.slice ao3 D cap3) R n f h1 w3.heap.size w3 (HR.out.below B3 hh) o3.rd (Nat.le_trans hh B3.size) (Nat.le_refl _) (by omega) (by omega) (by have := HTH.out.1; omega) hWW hcnt HTH.out.2 kf
            clear o3 hcnt x0 x1 y0 y1
            go_wp2_with fail
            refine CB.mono ?_
            rintro e0 w4 ⟨v4, rfl, o4, b4⟩
            obtain ⟨ao4, cap4, rfl⟩ := o4.slice
            have HO : Hid (Own w4 w3.heap.size w4.heap.size (.slice ao4 4 cap4) 4 (blockN D n R f W)) := o4
            have B4 : Below w.heap.size w w4 := B3.trans (b4.mono (by omega))
            have X4 : Box w4 w.heap.size #[.int .i64 0, .slice none 0 0] 25 := X3.below b4 z3
            have z4 := X4.lt
            obtain ⟨x0, x1, y0, y1⟩ := res_cells X4
            clear o4 b4 CB X4 X3
            go_wp2
            refine bodyPost_ret (v := bytesR 0 (.slice ao4 4 cap4)) (by simp [results, Try.results22, go_sem, bytesR, x0, x1]) rfl ⟨0, _, rfl, .inr (.inr (.inr ⟨HASK.out, HW.out, by rw [Int.toNat_natCast]; exact HCN.out, rfl⟩)), ?_, (B4.setCell (Nat.le_refl _) _).setCell (Nat.le_refl _) _⟩
            have o1 := out_store w4 w.heap.size (w.heap.size + 1) w.heap.size 0 (.int .i64 0) (Nat.le_refl _) (by omega)
            have o2 := out_store (w4.setCell ⟨w.heap.size, 0, none⟩ (.int .i64 0)) w.heap.size (w.heap.size + 1) w.heap.size 1 (.slice ao4 4 cap4) (Nat.le_refl _) (by omega)
            simp only [if_pos]
            rw [Int.toNat_natCast, Int.toNat_natCast]
            exact (HO.out.out (o1.trans o2) (.inr (by omega))).weaken (by omega) (by rw [(o1.trans o2).size]; exact Nat.le_refl _)
          · have HNC : Hid (¬ D ≤ cntN n R) := hcnt
            have hpf := pickN_few hcnt
            obtain ⟨c, hc⟩ : ∃ c, c = pickN D n R := ⟨_, rfl⟩
            rw [← hc] at o3 hpf
            obtain ⟨ao3, cap3, rfl⟩ := o3.slice
            have hci : (c : Int) < (D : Int) := by omega
            clear o3 hcnt hc
            go_wp2
            exact bodyPost_ret (v := bytesR 10 (.slice none 0 0)) (by simp [results, Try.results22, go_sem, bytesR, x0, x1]) rfl ⟨10, _, rfl, .inr (.inr (.inl ⟨HASK.out, HW.out, by rw [Int.toNat_natCast]; exact HNC.out, rfl⟩)), own_nil _ _ _ _, (B3.setCell (Nat.le_refl _) _).setCell (Nat.le_refl _) _⟩
end Go.Proofs.Ytdlbbmadjhonjai
