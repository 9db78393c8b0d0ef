/- Walk of the draw of a system. -/
import Derived.Test.YteelhafnkkfcbaaWDraw3
namespace Go.Proofs.Yteelhafnkkfcbaa
open Go.RowKit F256
set_option linter.unusedVariables false

set_option maxHeartbeats 4000000 in
theorem drawSolve_any (v : Value) (n : Nat) (f : Nat → Nat) (w : World) (h : Rd w w.heap.size v n f) (kf : ∀ i, f i < 256) (hn : n ≤ 1048576) :
    Calls Try.prog 11 #[v] w fun e w' => ∃ vr vc R nn ff m c, e = .returned (.tuple #[vr, vc]) ∧ OwnM w' w.heap.size w'.heap.size vr R nn ff ∧ Own w' w.heap.size w'.heap.size vc m c ∧ Byt ff ∧ (∀ i, c i < 256) ∧ R ≤ 17 ∧ m ≤ 18 ∧ Below w.heap.size w w' := by
  go_enter Try.func11, Try.ntmps11
  go_wp2_with fail
  refine (l1Source_any v n f _ h kf hn).mono ?_
  rintro e w1 ⟨rfl, h1, b1⟩
  have s1 := h1.1.lt
  go_wp2_with fail
  refine (l1Rows_any w.heap.size 0 v n f (by omega) _ h1).mono ?_
  rintro e w2 ⟨vr, R, nn, ff, t', rfl, or, kff, hR, hnn, ht', h2, c2⟩
  have s2 := c2.size
  have l2 := h2.1.lt
  have hslice : ∃ ao cap, vr = .slice ao R cap := by
    obtain ⟨g, cap, e, hE⟩ := or
    exact ⟨_, _, hE.val⟩
  obtain ⟨aor, capr, rfl⟩ := hslice
  have HR : Hid (OwnM w2 w1.heap.size w2.heap.size (.slice aor R capr) R nn ff) := or
  have HF : Hid (Byt ff) := kff
  clear or kff hnn h1
  have hb : Below w2.heap.size w2 (w2.alloc (.cells #[.int .i64 0, .int .i64 0, .int .i64 0, .int .i64 0, .int .i64 0, .int .i64 0, .int .i64 0, .int .i64 1] 2)) := (Below.refl _ _).alloc (Nat.le_refl _) _
  have C := l1Pick_any w.heap.size t' v n f #[.int .i64 0, .int .i64 0, .int .i64 0, .int .i64 0, .int .i64 0, .int .i64 0, .int .i64 0, .int .i64 1] (fun i => ([0, 0, 0, 0, 0, 0, 0, 1] : List Int).getD i 0) w2.heap.size 8 (by omega) (by show 1 ≤ 8; omega) (by show 8 ≤ 100000; omega) (by
    intro i hi
    have hi7 : i < 8 := hi
    have : i = 0 ∨ i = 1 ∨ i = 2 ∨ i = 3 ∨ i = 4 ∨ i = 5 ∨ i = 6 ∨ i = 7 := by omega
    rcases this with rfl | rfl | rfl | rfl | rfl | rfl | rfl | rfl <;> rfl) _ (h2.chgTrans hb) (box_new _ _ _) (by omega)
  go_wp2_with fail
  refine C.mono ?_
  rintro e w3 ⟨j, hj, rfl, h3, c3⟩
  have hj7 : j < 8 := hj
  obtain ⟨p, hp, hpe⟩ : ∃ p : Nat, p ≤ 1 ∧ ([0, 0, 0, 0, 0, 0, 0, 1] : List Int).getD j 0 = (p : Int) := by
    have : j = 0 ∨ j = 1 ∨ j = 2 ∨ j = 3 ∨ j = 4 ∨ j = 5 ∨ j = 6 ∨ j = 7 := by omega
    rcases this with rfl | rfl | rfl | rfl | rfl | rfl | rfl | rfl
    · exact ⟨0, by omega, rfl⟩
    · exact ⟨0, by omega, rfl⟩
    · exact ⟨0, by omega, rfl⟩
    · exact ⟨0, by omega, rfl⟩
    · exact ⟨0, by omega, rfl⟩
    · exact ⟨0, by omega, rfl⟩
    · exact ⟨0, by omega, rfl⟩
    · exact ⟨1, by omega, rfl⟩
  rw [hpe]
  have c3' : Chg w.heap.size (w.heap.size + 1) w2 w3 := (Below.chg hb _ _).trans c3
  have s3 := c3'.size
  have HR3 : Hid (OwnM w3 w1.heap.size w2.heap.size (.slice aor R capr) R nn ff) := HR.out.chg c3' (.inr (by omega))
  have D := l1Some_any w.heap.size (t' + 1) v n f (R + p) (by omega) (by omega) w3 h3
  have eRp : ((R + p : Nat) : Int) = (R : Int) + (p : Int) := by simp
  rw [eRp] at D
  clear hpe hj hj7 c3 h2 h3 hb C eRp
  go_wp2_with fail
  refine D.mono ?_
  rintro e w4 ⟨vc, cc, rfl, oc, kcc, h4, c4⟩
  have s4 := c4.size
  have HR4 : Hid (OwnM w4 w1.heap.size w2.heap.size (.slice aor R capr) R nn ff) := HR3.out.chg c4 (.inr (by omega))
  have HC : Hid (Own w4 w3.heap.size w4.heap.size vc (R + p) cc) := oc
  have HK : Hid (∀ i, cc i < 256) := kcc
  have B : Below w.heap.size w w4 := b1.trans (((c2.trans c3').trans c4).below (Nat.le_refl _) (by omega))
  obtain ⟨aoc, capc, rfl⟩ := oc.slice
  clear oc kcc D c4 c3' c2 b1
  go_wp2
  go_ret2
  exact ⟨_, _, R, nn, ff, R + p, cc, rfl, HR4.out.weaken (by omega) (by omega), HC.out.weaken (by omega) (Nat.le_refl _), HF.out, HK.out, hR, by omega, B⟩
end Go.Proofs.Yteelhafnkkfcbaa
