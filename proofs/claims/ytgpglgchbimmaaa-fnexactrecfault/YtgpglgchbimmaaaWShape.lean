/- Walks: the laws' toShape and the specification's ShapeFault. -/
import Derived.Test.YtgpglgchbimmaaaShapeV
import Derived.Test.YtgpglgchbimmaaaWColA
namespace Go.Proofs.Ytgpglgchbimmaaa
open Go.RowKit F256
set_option linter.unusedVariables false
set_option linter.unusedSimpArgs false

set_option maxHeartbeats 2000000 in
theorem toShape_any (s : Nat → Int) (w : World) :
    Calls Try.prog 12 #[shapeV s] w fun e w' => e = .returned (shapeV s) ∧ Below w.heap.size w w' := by
  unfold shapeV
  obtain ⟨a0, h0⟩ : ∃ a, a = s 0 := ⟨_, rfl⟩
  obtain ⟨a1, h1⟩ : ∃ a, a = s 1 := ⟨_, rfl⟩
  obtain ⟨a2, h2⟩ : ∃ a, a = s 2 := ⟨_, rfl⟩
  obtain ⟨a3, h3⟩ : ∃ a, a = s 3 := ⟨_, rfl⟩
  obtain ⟨a4, h4⟩ : ∃ a, a = s 4 := ⟨_, rfl⟩
  obtain ⟨a5, h5⟩ : ∃ a, a = s 5 := ⟨_, rfl⟩
  obtain ⟨a6, h6⟩ : ∃ a, a = s 6 := ⟨_, rfl⟩
  obtain ⟨a7, h7⟩ : ∃ a, a = s 7 := ⟨_, rfl⟩
  obtain ⟨a8, h8⟩ : ∃ a, a = s 8 := ⟨_, rfl⟩
  rw [← h0, ← h1, ← h2, ← h3, ← h4, ← h5, ← h6, ← h7, ← h8]
  clear h0 h1 h2 h3 h4 h5 h6 h7 h8
  go_enter Try.func12, Try.ntmps12
  go_wp2
  refine bodyPost_ret (v := .agg #[.int .i64 a0, .int .i64 a1, .int .i64 a2, .int .i64 a3, .int .i64 a4, .int .i64 a5, .int .i64 a6, .int .i64 a7, .int .i64 a8]) (by simp [results, Try.results12, go_sem]) rfl ⟨rfl, ?_⟩
  exact (((Below.refl _ _).alloc (Nat.le_refl _) _).alloc (by simp) _).alloc (by simp <;> omega) _

/-- a shape that has no fault -/
def OkShape (s : Nat → Int) : Prop := Shp3 (s 0) (s 1) ∧ Shp (s 2) (s 3) ∧ (1 ≤ s 4 ∧ s 4 ≤ 6) ∧ (1 ≤ s 5 ∧ s 5 ≤ 6) ∧ (1 ≤ s 6 ∧ s 6 ≤ 4) ∧ (1 ≤ s 7 ∧ s 7 ≤ 6) ∧ (0 ≤ s 8 ∧ s 8 ≤ 400)
def ShFAns (s : Nat → Int) (x : Int) : Prop := (x = 3 ∧ ¬ OkShape s) ∨ (x = 0 ∧ OkShape s)
theorem ShFAns.one {s : Nat → Int} {x y : Int} (h : ShFAns s x) (k : ShFAns s y) : x = y := by
  rcases h with ⟨rfl, h⟩ | ⟨rfl, h⟩ <;> rcases k with ⟨rfl, k⟩ | ⟨rfl, k⟩ <;> first | rfl | exact absurd h k | exact absurd k h
theorem box9 {w : World} {b : Nat} {t : TypeId} {a0 a1 a2 a3 a4 a5 a6 a7 a8 : Value} (h : Box w b #[a0, a1, a2, a3, a4, a5, a6, a7, a8] t) :
    w.cell? ⟨b, 0, none⟩ = some a0 ∧ w.cell? ⟨b, 1, none⟩ = some a1 ∧ w.cell? ⟨b, 2, none⟩ = some a2 ∧ w.cell? ⟨b, 3, none⟩ = some a3 ∧ w.cell? ⟨b, 4, none⟩ = some a4 ∧ w.cell? ⟨b, 5, none⟩ = some a5 ∧ w.cell? ⟨b, 6, none⟩ = some a6 ∧ w.cell? ⟨b, 7, none⟩ = some a7 ∧ w.cell? ⟨b, 8, none⟩ = some a8 :=
  ⟨h.cell 0, h.cell 1, h.cell 2, h.cell 3, h.cell 4, h.cell 5, h.cell 6, h.cell 7, h.cell 8⟩

set_option maxHeartbeats 4000000 in
theorem specShape_any (s : Nat → Int) (w : World) :
    Calls Try.prog 19 #[shapeV s] w fun e w' => ∃ x, e = .returned (.int .i64 x) ∧ ShFAns s x ∧ Below w.heap.size w w' := by
  unfold shapeV
  have HOK : Hid (OkShape s ↔ OkShape s) := Iff.rfl
  unfold OkShape at HOK
  obtain ⟨a0, h0⟩ : ∃ a, a = s 0 := ⟨_, rfl⟩
  obtain ⟨a1, h1⟩ : ∃ a, a = s 1 := ⟨_, rfl⟩
  obtain ⟨a2, h2⟩ : ∃ a, a = s 2 := ⟨_, rfl⟩
  obtain ⟨a3, h3⟩ : ∃ a, a = s 3 := ⟨_, rfl⟩
  obtain ⟨a4, h4⟩ : ∃ a, a = s 4 := ⟨_, rfl⟩
  obtain ⟨a5, h5⟩ : ∃ a, a = s 5 := ⟨_, rfl⟩
  obtain ⟨a6, h6⟩ : ∃ a, a = s 6 := ⟨_, rfl⟩
  obtain ⟨a7, h7⟩ : ∃ a, a = s 7 := ⟨_, rfl⟩
  obtain ⟨a8, h8⟩ : ∃ a, a = s 8 := ⟨_, rfl⟩
  have HIFF : Hid (OkShape s ↔ (Shp3 a0 a1 ∧ Shp a2 a3 ∧ (1 ≤ a4 ∧ a4 ≤ 6) ∧ (1 ≤ a5 ∧ a5 ≤ 6) ∧ (1 ≤ a6 ∧ a6 ≤ 4) ∧ (1 ≤ a7 ∧ a7 ≤ 6) ∧ (0 ≤ a8 ∧ a8 ≤ 400))) := by
    show OkShape s ↔ _
    rw [h0, h1, h2, h3, h4, h5, h6, h7, h8]
    exact Iff.rfl
  rw [← h0, ← h1, ← h2, ← h3, ← h4, ← h5, ← h6, ← h7, ← h8]
  clear h0 h1 h2 h3 h4 h5 h6 h7 h8 HOK
  go_enter Try.func19, Try.ntmps19
  go_wp2_with fail
  refine (l3Shape_any a0 a1 _).mono ?_
  rintro e w1 ⟨b1, rfl, hb1, b1'⟩
  have X1 : Box w1 w.heap.size #[.int .i64 a0, .int .i64 a1, .int .i64 a2, .int .i64 a3, .int .i64 a4, .int .i64 a5, .int .i64 a6, .int .i64 a7, .int .i64 a8] 31 := (box_new w _ _).below b1' (by simp)
  have B1 : Below w.heap.size w w1 := bnew b1'
  have H1 : Hid (b1 = true ↔ Shp3 a0 a1) := hb1
  have z1 := X1.lt
  obtain ⟨x0, x1, x2, x3, x4, x5, x6, x7, x8⟩ := box9 X1
  clear hb1 b1'
  cases b1 with
  | false =>
    have HNO : Hid (¬ OkShape s) := fun h => by have := H1.out.mpr (HIFF.out.mp h).1; cases this
    clear H1
    go_wp2
    go_ret
    exact ⟨3, rfl, .inl ⟨rfl, HNO.out⟩, B1⟩
  | true =>
    have HS1 : Hid (Shp3 a0 a1) := H1.out.mp rfl
    clear H1
    go_wp2_with fail
    refine (l2Shape_any a2 a3 _).mono ?_
    rintro e w2 ⟨b2, rfl, hb2, b2'⟩
    have X2 := X1.below b2' z1
    have B2 : Below w.heap.size w w2 := B1.trans (b2'.mono B1.size)
    have H2 : Hid (b2 = true ↔ Shp a2 a3) := hb2
    clear x0 x1 x2 x3 x4 x5 x6 x7 x8
    obtain ⟨x0, x1, x2, x3, x4, x5, x6, x7, x8⟩ := box9 X2
    clear hb2 b2' X1 B1
    cases b2 with
    | false =>
      have HNO : Hid (¬ OkShape s) := fun h => by have := H2.out.mpr (HIFF.out.mp h).2.1; cases this
      clear H2
      go_wp2
      go_ret
      exact ⟨3, rfl, .inl ⟨rfl, HNO.out⟩, B2⟩
    | true =>
      have HS2 : Hid (Shp a2 a3) := H2.out.mp rfl
      clear H2
      by_cases c4 : 1 ≤ a4 ∧ a4 ≤ 6
      · by_cases c5 : 1 ≤ a5 ∧ a5 ≤ 6
        · by_cases c6 : 1 ≤ a6 ∧ a6 ≤ 4
          · by_cases c7 : 1 ≤ a7 ∧ a7 ≤ 6
            · by_cases c8 : 0 ≤ a8 ∧ a8 ≤ 400
              · have HY : Hid (OkShape s) := HIFF.out.mpr ⟨HS1.out, HS2.out, c4, c5, c6, c7, c8⟩
                go_wp2_with fail
                refine (l1In_yes a4 1 6 c4.1 c4.2 _).mono ?_
                rintro e w3 ⟨rfl, hw⟩
                obtain rfl := hw.symm
                go_wp2_with fail
                refine (l1In_yes a5 1 6 c5.1 c5.2 _).mono ?_
                rintro e w3 ⟨rfl, hw⟩
                obtain rfl := hw.symm
                go_wp2_with fail
                refine (l1In_yes a6 1 4 c6.1 c6.2 _).mono ?_
                rintro e w3 ⟨rfl, hw⟩
                obtain rfl := hw.symm
                go_wp2_with fail
                refine (l1In_yes a7 1 6 c7.1 c7.2 _).mono ?_
                rintro e w3 ⟨rfl, hw⟩
                obtain rfl := hw.symm
                go_wp2_with fail
                refine (l1In_yes a8 0 400 c8.1 c8.2 _).mono ?_
                rintro e w3 ⟨rfl, hw⟩
                obtain rfl := hw.symm
                go_wp2
                go_ret
                exact ⟨0, rfl, .inr ⟨rfl, HY.out⟩, B2⟩
              · have HN : Hid (¬ OkShape s) := fun h => c8 (HIFF.out.mp h).2.2.2.2.2.2
                have c8' : a8 < 0 ∨ 400 < a8 := by omega
                clear c8
                go_wp2_with fail
                refine (l1In_yes a4 1 6 c4.1 c4.2 _).mono ?_
                rintro e w3 ⟨rfl, hw⟩
                obtain rfl := hw.symm
                go_wp2_with fail
                refine (l1In_yes a5 1 6 c5.1 c5.2 _).mono ?_
                rintro e w3 ⟨rfl, hw⟩
                obtain rfl := hw.symm
                go_wp2_with fail
                refine (l1In_yes a6 1 4 c6.1 c6.2 _).mono ?_
                rintro e w3 ⟨rfl, hw⟩
                obtain rfl := hw.symm
                go_wp2_with fail
                refine (l1In_yes a7 1 6 c7.1 c7.2 _).mono ?_
                rintro e w3 ⟨rfl, hw⟩
                obtain rfl := hw.symm
                go_wp2_with fail
                refine (l1In_no a8 0 400 c8' _).mono ?_
                rintro e w3 ⟨rfl, hw⟩
                obtain rfl := hw.symm
                go_wp2
                go_ret
                exact ⟨3, rfl, .inl ⟨rfl, HN.out⟩, B2⟩
            · have HN : Hid (¬ OkShape s) := fun h => c7 (HIFF.out.mp h).2.2.2.2.2.1
              have c7' : a7 < 1 ∨ 6 < a7 := by omega
              clear c7
              go_wp2_with fail
              refine (l1In_yes a4 1 6 c4.1 c4.2 _).mono ?_
              rintro e w3 ⟨rfl, hw⟩
              obtain rfl := hw.symm
              go_wp2_with fail
              refine (l1In_yes a5 1 6 c5.1 c5.2 _).mono ?_
              rintro e w3 ⟨rfl, hw⟩
              obtain rfl := hw.symm
              go_wp2_with fail
              refine (l1In_yes a6 1 4 c6.1 c6.2 _).mono ?_
              rintro e w3 ⟨rfl, hw⟩
              obtain rfl := hw.symm
              go_wp2_with fail
              refine (l1In_no a7 1 6 c7' _).mono ?_
              rintro e w3 ⟨rfl, hw⟩
              obtain rfl := hw.symm
              go_wp2
              go_ret
              exact ⟨3, rfl, .inl ⟨rfl, HN.out⟩, B2⟩
          · have HN : Hid (¬ OkShape s) := fun h => c6 (HIFF.out.mp h).2.2.2.2.1
            have c6' : a6 < 1 ∨ 4 < a6 := by omega
            clear c6
            go_wp2_with fail
            refine (l1In_yes a4 1 6 c4.1 c4.2 _).mono ?_
            rintro e w3 ⟨rfl, hw⟩
            obtain rfl := hw.symm
            go_wp2_with fail
            refine (l1In_yes a5 1 6 c5.1 c5.2 _).mono ?_
            rintro e w3 ⟨rfl, hw⟩
            obtain rfl := hw.symm
            go_wp2_with fail
            refine (l1In_no a6 1 4 c6' _).mono ?_
            rintro e w3 ⟨rfl, hw⟩
            obtain rfl := hw.symm
            go_wp2
            go_ret
            exact ⟨3, rfl, .inl ⟨rfl, HN.out⟩, B2⟩
        · have HN : Hid (¬ OkShape s) := fun h => c5 (HIFF.out.mp h).2.2.2.1
          have c5' : a5 < 1 ∨ 6 < a5 := by omega
          clear c5
          go_wp2_with fail
          refine (l1In_yes a4 1 6 c4.1 c4.2 _).mono ?_
          rintro e w3 ⟨rfl, hw⟩
          obtain rfl := hw.symm
          go_wp2_with fail
          refine (l1In_no a5 1 6 c5' _).mono ?_
          rintro e w3 ⟨rfl, hw⟩
          obtain rfl := hw.symm
          go_wp2
          go_ret
          exact ⟨3, rfl, .inl ⟨rfl, HN.out⟩, B2⟩
      · have HN : Hid (¬ OkShape s) := fun h => c4 (HIFF.out.mp h).2.2.1
        have c4' : a4 < 1 ∨ 6 < a4 := by omega
        clear c4
        go_wp2_with fail
        refine (l1In_no a4 1 6 c4' _).mono ?_
        rintro e w3 ⟨rfl, hw⟩
        obtain rfl := hw.symm
        go_wp2
        go_ret
        exact ⟨3, rfl, .inl ⟨rfl, HN.out⟩, B2⟩
end Go.Proofs.Ytgpglgchbimmaaa
