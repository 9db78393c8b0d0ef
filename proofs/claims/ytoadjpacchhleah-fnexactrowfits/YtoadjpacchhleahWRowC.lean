/- Walks of the specification's EncodeRow, RowFits and ShiftRow. -/
import Derived.Test.YtoadjpacchhleahWRowB
import Derived.Test.YtoadjpacchhleahWOwnB
namespace Go.Proofs.Ytoadjpacchhleah
open Go.RowKit F256
set_option linter.unusedVariables false
set_option linter.unusedSimpArgs false

/-- the answers of EncodeRow to n bytes -/
def EncAns (d s : Int) (n : Nat) (x : Int) : Prop := (x = 3 ∧ ¬ Shp d s) ∨ (x = 1 ∧ Shp d s ∧ (n : Int) ≠ d * 4) ∨ (x = 0 ∧ Shp d s ∧ (n : Int) = d * 4)
theorem EncAns.one {d s : Int} {n : Nat} {x y : Int} (h : EncAns d s n x) (k : EncAns d s n y) : x = y := by
  rcases h with ⟨rfl, h⟩ | ⟨rfl, h, h2⟩ | ⟨rfl, h, h2⟩ <;> rcases k with ⟨rfl, k⟩ | ⟨rfl, k, k2⟩ | ⟨rfl, k, k2⟩
  · rfl
  · exact absurd k h
  · exact absurd k h
  · exact absurd h k
  · rfl
  · exact absurd k2 h2
  · exact absurd h k
  · exact absurd h2 k2
  · rfl
theorem enc_ans (d s : Int) (n : Nat) : ∃ x, EncAns d s n x := by
  by_cases h : Shp d s
  · by_cases h2 : (n : Int) = d * 4
    · exact ⟨0, .inr (.inr ⟨rfl, h, h2⟩)⟩
    · exact ⟨1, .inr (.inl ⟨rfl, h, h2⟩)⟩
  · exact ⟨3, .inl ⟨rfl, h⟩⟩

theorem shp_rows {d s : Int} {n : Nat} {c : Int} (h : EncAns d s n c) : (if c = 0 then (d + s).toNat else 0) ≤ 5 := by
  split
  · rename_i h0
    rcases h with ⟨h1, _⟩ | ⟨h1, _⟩ | ⟨_, hs, _⟩
    · omega
    · omega
    · obtain ⟨_, h2, _, h4⟩ := hs
      omega
  · omega
theorem sum4_le (m : Nat) (h : m ≤ 5) : sumN (fun _ => 4) m ≤ 100000 := by
  have : ∀ k, sumN (fun _ => 4) k = 4 * k := fun k => by
    induction k with
    | zero => rfl
    | succ k ih => rw [sumN, ih]; omega
  rw [this]
  omega

set_option maxHeartbeats 4000000 in
theorem specEncode_any (d s : Int) (vb : Value) (n : Nat) (b : Nat → Nat) (l1 h1 : Nat) (w : World) (rb : Own w l1 h1 vb n b) (hh : h1 ≤ w.heap.size) (kb : ∀ i, b i < 256) :
    Calls Try.prog 28 #[.int .i64 d, .int .i64 s, vb] w fun ee w' => ∃ x v', ee = .returned (bytesR x v') ∧ EncAns d s n x ∧ OwnB w' w.heap.size w'.heap.size v' (if x = 0 then (d + s).toNat else 0) (fun _ => 4) (encN d.toNat b) ∧ Below w.heap.size w w' := by
  have hn := rb.le
  unfold maxLen at hn
  obtain ⟨aob, capb, rfl⟩ := rb.slice
  have HB : Hid (Own w l1 h1 (.slice aob n capb) n b) := rb
  clear rb
  go_enter Try.func28, Try.ntmps28
  go_wp2_with fail
  refine (l2Shape_any d s _).mono ?_
  rintro e w1 ⟨b1, rfl, hb1, b1'⟩
  have HS : Hid (b1 = true ↔ Shp d s) := hb1
  have B1 : Below w.heap.size w w1 := bnew b1'
  have X1 : Box w1 w.heap.size #[.int .i64 0, .slice none 0 0] 44 := (box_new w _ _).below b1' (by simp)
  have z1 : w.heap.size < w1.heap.size := X1.lt
  obtain ⟨x0, x1, y0, y1⟩ := res_cells X1
  clear hb1 b1'
  cases b1 with
  | false =>
    have hno : ¬ Shp d s := fun h => by have := HS.out.mpr h; cases this
    have HNO : Hid (¬ Shp d s) := hno
    clear hno HS
    go_wp2
    exact bodyPost_ret (v := bytesR 3 (.slice none 0 0)) (by simp [results, Try.results28, go_sem, bytesR, x0, x1]) rfl ⟨3, _, rfl, .inl ⟨rfl, HNO.out⟩, OwnB.none _ _ _ _ _, (B1.setCell (Nat.le_refl _) _).setCell (Nat.le_refl _) _⟩
  | true =>
    have hsh := HS.out.mp rfl
    have HSH : Hid (Shp d s) := hsh
    obtain ⟨q1, q2, q3, q4⟩ := hsh
    obtain ⟨D, rfl⟩ : ∃ D : Nat, d = D := ⟨d.toNat, by omega⟩
    obtain ⟨S, rfl⟩ : ∃ S : Nat, s = S := ⟨s.toNat, by omega⟩
    clear HS
    by_cases hlen : n = 4 * D
    · have hlen2 : (n : Int) = (D : Int) * 4 := by omega
      have tl : ((n : Int) != (D : Int) * 4) = false := by simp; omega
      have rb1 := (HB.out.below B1 hh).rd
      rw [hlen] at rb1
      have C := l2Encode_any D S (by omega) (by omega) (by omega) (.slice aob (4 * D) capb) b h1 w1 rb1 (fun ao cap h => by
        cases h
        obtain ⟨g, cap, hv, _, _, _, hle⟩ := HB.out.form (by omega)
        cases hv
        omega) (Nat.le_trans hh B1.size) kb
      rw [← hlen] at C
      have HL : Hid (n = 4 * D) := hlen
      clear rb1 hlen hlen2
      go_wp2_with fail
      refine C.mono ?_
      rintro e w4 ⟨v4, rfl, om, b4⟩
      have hsl : ∃ ao cap, v4 = .slice ao (D + S) cap := by
        obtain ⟨g, cap, e, h⟩ := om
        exact ⟨_, _, h.val⟩
      obtain ⟨ao4, cap4, rfl⟩ := hsl
      have HOM : Hid (OwnM w4 w1.heap.size w4.heap.size (.slice ao4 (D + S) cap4) (D + S) (fun _ => 4) (encN D b)) := om
      have B4 : Below w.heap.size w w4 := B1.trans (b4.mono (by omega))
      have X4 : Box w4 w.heap.size #[.int .i64 0, .slice none 0 0] 44 := X1.below b4 z1
      have z4 := X4.lt
      clear x0 x1 y0 y1
      obtain ⟨x0, x1, y0, y1⟩ := res_cells X4
      clear om b4 C X4 X1
      go_wp2
      refine bodyPost_ret (v := bytesR 0 (.slice ao4 (D + S) cap4)) (by simp [results, Try.results28, go_sem, bytesR, x0, x1]) rfl ⟨0, _, rfl, .inr (.inr ⟨rfl, HSH.out, by have := HL.out; omega⟩), ?_, (B4.setCell (Nat.le_refl _) _).setCell (Nat.le_refl _) _⟩
      have o1 := out_store w4 w.heap.size (w.heap.size + 1) w.heap.size 0 (.int .i64 0) (Nat.le_refl _) (by omega)
      have o2 := out_store (w4.setCell ⟨w.heap.size, 0, none⟩ (.int .i64 0)) w.heap.size (w.heap.size + 1) w.heap.size 1 (.slice ao4 (D + S) cap4) (Nat.le_refl _) (by omega)
      simp only [if_pos]
      have e1 : ((D : Int) + (S : Int)).toNat = D + S := by omega
      rw [e1, Int.toNat_natCast]
      exact .inr ((HOM.out.out (o1.trans o2) (.inr (by omega))).weaken (by omega) (by rw [(o1.trans o2).size]; exact Nat.le_refl _))
    · have tl : ((n : Int) != (D : Int) * 4) = true := by simp; omega
      have hne : (n : Int) ≠ (D : Int) * 4 := by omega
      have HNE : Hid ((n : Int) ≠ (D : Int) * 4) := hne
      clear hne hlen
      go_wp2
      exact bodyPost_ret (v := bytesR 1 (.slice none 0 0)) (by simp [results, Try.results28, go_sem, bytesR, x0, x1]) rfl ⟨1, _, rfl, .inr (.inl ⟨rfl, HSH.out, HNE.out⟩), OwnB.none _ _ _ _ _, (B1.setCell (Nat.le_refl _) _).setCell (Nat.le_refl _) _⟩
end Go.Proofs.Ytoadjpacchhleah
