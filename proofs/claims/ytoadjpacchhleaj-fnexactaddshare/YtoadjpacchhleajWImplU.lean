/- Walks of the program's AddShare, of slices.Equal over bytes and of ColumnFits. -/
import Derived.Test.YtoadjpacchhleajWImplL
import Derived.Test.YtoadjpacchhleajWJoin
import Derived.BigQuiet
import Derived.Deep.QuietTactic
namespace Go.Proofs.Ytoadjpacchhleaj
open Go.RowKit F256
set_option linter.unusedVariables false
set_option linter.unusedSimpArgs false

set_option maxHeartbeats 2000000 in
theorem implAddShare_any (v1 v2 : Value) (n m : Nat) (f g : Nat → Nat) (c : Nat) (h1 h2 : Nat) (w : World) (r1 : Rd w h1 v1 n f) (r2 : Rd w h2 v2 m g) (hh1 : h1 ≤ w.heap.size) (hh2 : h2 ≤ w.heap.size) (k1 : ∀ i, f i < 256) (k2 : ∀ i, g i < 256) (hc : c < 256) :
    Calls Try.prog 29 #[v1, v2, .int .u8 c] w fun ee w' => ∃ x v', ee = .returned (bytesR x v') ∧ AdsAns n m x ∧ Own w' w.heap.size w'.heap.size v' (if x = 0 then n else 0) (adsN f g c) ∧ Below w.heap.size w w' := by
  have H1 : Hid (Rd w h1 v1 n f) := r1
  have H2 : Hid (Rd w h2 v2 m g) := r2
  obtain ⟨ao, cap, rfl, hm, hx1⟩ := r1
  obtain ⟨ao2, cap2, rfl, hm2, hx2⟩ := r2
  clear hx1 hx2
  unfold maxLen at hm hm2
  have b0 : Below w.heap.size w (w.alloc (.cells #[.int .i64 0, .slice none 0 0] 25)) := (Below.refl _ _).alloc (Nat.le_refl _) _
  by_cases hne : n = m
  · subst hne
    by_cases hbig : 4000 < n
    · go_enter Try.func29, Try.ntmps29
      go_wp2
      exact bodyPost_ret (v := bytesR 2 (.slice none 0 0)) (by simp [results, Try.results29, go_sem, bytesR]) rfl ⟨2, _, rfl, .inr (.inl ⟨rfl, rfl, hbig⟩), own_nil _ _ _ _, (Below.refl _ _).alloc (Nat.le_refl _) _⟩
    · have C1 := joined_nil (.slice ao n cap) (.slice none 0 0) n f (fun _ => 0) h1 0 _ (H1.out.below b0 hh1) (rd_nil _ _ _) (by simp; omega) (by omega)
      go_enter Try.func29, Try.ntmps29
      go_wp2_with fail
      refine C1.mono ?_
      rintro e w2 ⟨v2, rfl, o2, b2⟩
      have B2 : Below w.heap.size w w2 := bnew b2
      have X2 : Box w2 w.heap.size #[.int .i64 0, .slice none 0 0] 25 := (box_new w _ _).below b2 (by simp)
      have z2 := X2.lt
      have hsA : (w.alloc (.cells #[.int .i64 0, .slice none 0 0] 25)).heap.size = w.heap.size + 1 := by simp
      rw [hsA] at o2
      obtain ⟨ao4, cap4, rfl⟩ := o2.slice
      have C2 := addScaled_any (.slice ao4 n cap4) (.slice ao2 n cap2) n f g (adsN f g c) c (w.heap.size + 1) w2.heap.size h2 w2 o2 (Nat.le_refl _) (H2.out.below B2 hh2) (by omega) (Nat.le_trans hh2 B2.size) k1 k2 hc (fun _ _ => rfl) (by omega)
      clear C1 o2 b2 hsA
      go_wp2_with fail
      refine C2.mono ?_
      rintro e w4 ⟨rfl, o4, ch4⟩
      have s4 := ch4.size
      have HO : Hid (Own w4 (w.heap.size + 1) w4.heap.size (.slice ao4 n cap4) n (adsN f g c)) := o4.mono s4
      have B4 : Below w.heap.size w w4 := B2.trans (ch4.below (by omega) (by omega))
      have X4 : Box w4 w.heap.size #[.int .i64 0, .slice none 0 0] 25 := X2.chg ch4 (.inl (by omega))
      have z4 := X4.lt
      obtain ⟨x0, x1, y0, y1⟩ := res_cells X4
      clear o4 ch4 C2 X4 X2
      go_wp2
      refine bodyPost_ret (v := bytesR 0 (.slice ao4 n cap4)) (by simp [results, Try.results29, go_sem, bytesR, x0, x1]) rfl ⟨0, _, rfl, .inr (.inr ⟨rfl, rfl, by omega⟩), ?_, (B4.setCell (Nat.le_refl _) _).setCell (Nat.le_refl _) _⟩
      have o1 := out_store w4 w.heap.size (w.heap.size + 1) w.heap.size 0 (.int .i64 0) (Nat.le_refl _) (by omega)
      have o2 := out_store (w4.setCell ⟨w.heap.size, 0, none⟩ (.int .i64 0)) w.heap.size (w.heap.size + 1) w.heap.size 1 (.slice ao4 n cap4) (Nat.le_refl _) (by omega)
      simp only [if_pos]
      exact (HO.out.out (o1.trans o2) (.inr (by omega))).weaken (by omega) (by rw [(o1.trans o2).size]; exact Nat.le_refl _)
  · have tn : ((n : Int) != (m : Int)) = true := by simp; omega
    go_enter Try.func29, Try.ntmps29
    go_wp2
    exact bodyPost_ret (v := bytesR 1 (.slice none 0 0)) (by simp [results, Try.results29, go_sem, bytesR]) rfl ⟨1, _, rfl, .inl ⟨rfl, hne⟩, own_nil _ _ _ _, (Below.refl _ _).alloc (Nat.le_refl _) _⟩

end Go.Proofs.Ytoadjpacchhleaj
