/- Walks of the two ScaleBytes. -/
import Derived.Test.YteelhafnkkfcbagWScale
namespace Go.Proofs.Yteelhafnkkfcbag
open Go.RowKit F256

theorem specScale_many (v1 : Value) (n : Nat) (f1 : Nat → Nat) (c : Nat) (h1 : Nat) (w : World) (r1 : Rd w h1 v1 n f1) (hn : 4000 < n) :
    Calls Try.prog 23 #[v1, .int .u8 c] w fun e w' => ∃ v', e = .returned (bytesR 2 v') ∧ Own w' w.heap.size w'.heap.size v' 0 (fun _ => 0) ∧ Below w.heap.size w w' := by
  obtain ⟨ao, cap, rfl, hm, hcc⟩ := r1
  clear hcc
  unfold maxLen at hm
  go_enter Try.func23, Try.ntmps23
  go_wp2
  exact bodyPost_ret (v := bytesR 2 (.slice none 0 0)) (by simp [results, Try.results23, go_sem, bytesR]) rfl ⟨_, rfl, own_nil _ _ _ _, (Below.refl _ _).alloc (Nat.le_refl _) _⟩
theorem specScale_ok (v1 : Value) (n : Nat) (f1 g : Nat → Nat) (c : Nat) (h1 : Nat) (w : World) (r1 : Rd w h1 v1 n f1) (b1 : h1 ≤ w.heap.size) (k1 : ∀ i, f1 i < 256) (hc : c < 256) (hg : ∀ i, i < n → g i = mulN c (f1 i)) (hn : n ≤ 4000) :
    Calls Try.prog 23 #[v1, .int .u8 c] w fun e w' => ∃ v', e = .returned (bytesR 0 v') ∧ Own w' w.heap.size w'.heap.size v' n g ∧ Below w.heap.size w w' := by
  have hb0 : Below w.heap.size w (w.alloc (.cells #[.int .i64 0, .slice none 0 0] 32)) := (Below.refl _ _).alloc (Nat.le_refl _) _
  have C := l1Scale_any v1 n f1 g c h1 _ (r1.below hb0 b1) (Nat.le_trans b1 hb0.size) k1 hc hg (by omega)
  obtain ⟨ao, cap, rfl, hm, hcc⟩ := r1
  clear hcc hg
  unfold maxLen at hm
  go_enter Try.func23, Try.ntmps23
  go_wp2_with (go_at_call 31; refine C.mono ?_; rintro e w1 ⟨v, rfl, hown, hb1⟩; obtain ⟨ao', cap', rfl⟩ := hown.slice; obtain ⟨hcc, hff⟩ := bcell hb1)
  exact bodyPost_ret (v := bytesR 0 (.slice ao' n cap')) (by simp [results, Try.results23, go_sem, bytesR, hcc]) rfl ⟨_, rfl, own_set2 hown, below_set2 hb1⟩
theorem implScale_many (v1 : Value) (n : Nat) (f1 : Nat → Nat) (c : Nat) (h1 : Nat) (w : World) (r1 : Rd w h1 v1 n f1) (hn : 4000 < n) :
    Calls Try.prog 24 #[v1, .int .u8 c] w fun e w' => ∃ v', e = .returned (bytesR 2 v') ∧ Own w' w.heap.size w'.heap.size v' 0 (fun _ => 0) ∧ Below w.heap.size w w' := by
  obtain ⟨ao, cap, rfl, hm, hcc⟩ := r1
  clear hcc
  unfold maxLen at hm
  go_enter Try.func24, Try.ntmps24
  go_wp2
  exact bodyPost_ret (v := bytesR 2 (.slice none 0 0)) (by simp [results, Try.results24, go_sem, bytesR]) rfl ⟨_, rfl, own_nil _ _ _ _, (Below.refl _ _).alloc (Nat.le_refl _) _⟩
theorem implScale_ok (v1 : Value) (n : Nat) (f1 g : Nat → Nat) (c : Nat) (h1 : Nat) (w : World) (r1 : Rd w h1 v1 n f1) (b1 : h1 ≤ w.heap.size) (k1 : ∀ i, f1 i < 256) (hc : c < 256) (hg : ∀ i, i < n → g i = mulN c (f1 i)) (hn : n ≤ 4000) :
    Calls Try.prog 24 #[v1, .int .u8 c] w fun e w' => ∃ v', e = .returned (bytesR 0 v') ∧ Own w' w.heap.size w'.heap.size v' n g ∧ Below w.heap.size w w' := by
  have hb0 : Below w.heap.size w (w.alloc (.cells #[.int .i64 0, .slice none 0 0] 32)) := (Below.refl _ _).alloc (Nat.le_refl _) _
  have C := scaled_any v1 n f1 g c h1 _ (r1.below hb0 b1) (Nat.le_trans b1 hb0.size) k1 hc hg (by omega)
  obtain ⟨ao, cap, rfl, hm, hcc⟩ := r1
  clear hcc hg
  unfold maxLen at hm
  go_enter Try.func24, Try.ntmps24
  go_wp2_with (go_at_call 32; refine C.mono ?_; rintro e w1 ⟨v, rfl, hown, hb1⟩; obtain ⟨ao', cap', rfl⟩ := hown.slice; obtain ⟨hcc, hff⟩ := bcell hb1)
  exact bodyPost_ret (v := bytesR 0 (.slice ao' n cap')) (by simp [results, Try.results24, go_sem, bytesR, hcc]) rfl ⟨_, rfl, own_set2 hown, below_set2 hb1⟩
end Go.Proofs.Yteelhafnkkfcbag
