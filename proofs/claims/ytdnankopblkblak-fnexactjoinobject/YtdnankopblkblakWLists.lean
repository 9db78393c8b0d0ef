/- The laws' helpers for ListsResult. -/
import Derived.Test.YtdnankopblkblakWBlocks
namespace Go.Proofs.Ytdnankopblkblak
open Go.RowKit F256
set_option linter.unusedVariables false
set_option linter.unusedSimpArgs false

theorem eqListsR_same (c : Int) (v1 v2 : Value) (R : Nat) (n : Nat → Nat) (f : Mat) (h1 h2 : Nat) (w : World) (r1 : RdM w h1 v1 R n f) (r2 : RdM w h2 v2 R n f) (b1 : h1 ≤ w.heap.size) (b2 : h2 ≤ w.heap.size) :
    Calls Try.prog 17 #[bytesR c v1, bytesR c v2] w fun e w' => e = .returned (.bool true) ∧ Below w.heap.size w w' := by
  unfold bytesR
  obtain ⟨w1, hw1⟩ : ∃ w1, w1 = (w.alloc (.cells #[.int .i64 c, v1] 36)).alloc (.cells #[.int .i64 c, v2] 36) := ⟨_, rfl⟩
  have hb : Below w.heap.size w w1 := by rw [hw1]; exact ((Below.refl _ _).alloc (Nat.le_refl _) _).alloc (by simp) _
  have q1 := r1.below hb b1
  have q2 := r2.below hb b2
  have z1 : h1 ≤ w1.heap.size := Nat.le_trans b1 hb.size
  have z2 : h2 ≤ w1.heap.size := Nat.le_trans b2 hb.size
  subst hw1
  obtain ⟨ao, cap, e1, rfl, _⟩ := r1
  obtain ⟨ao2, cap2, e2, rfl, _⟩ := r2
  go_enter Try.func17, Try.ntmps17
  go_wp2_with (go_at_call 27; refine (eqByteSS_same _ _ R n f h1 h2 _ q1 q2 z1 z2).mono ?_; rintro e w2 ⟨rfl, hb2⟩)
  go_ret
  exact ⟨rfl, hb.trans (hb2.mono hb.size)⟩

theorem markListsR_any (c : Int) (v : Value) (R : Nat) (n : Nat → Nat) (f : Mat) (lo hi : Nat) (j : Nat) (hj : j ≤ 100000000) (hR : R ≤ 100000000) (hs : sumN n R ≤ 100000000) (w : World) (h : OwnB w lo hi v R n f) (hhi : hi ≤ w.heap.size) :
    Calls Try.prog 20 #[bytesR c v, .int .i64 j] w fun e w' => e = .returned (.int .i64 ((j + sumN n R : Nat) : Int)) ∧ OwnB w' lo hi v R n (marksM j n) ∧ Chg lo hi w w' := by
  unfold bytesR
  have c0 : Chg lo hi w (w.alloc (.cells #[.int .i64 c, v] 36)) := Below.chg ((Below.refl _ _).alloc (Nat.le_refl _) _) lo hi
  rcases h with ⟨rfl, rfl⟩ | h
  · have C : Calls Try.prog 28 #[nilS, .int .i64 j] (w.alloc (.cells #[.int .i64 c, nilS] 36)) fun e w' => e = .returned (.int .i64 ((j + sumN n 0 : Nat) : Int)) ∧ w' = w.alloc (.cells #[.int .i64 c, nilS] 36) := by
      have e0 : j + sumN n 0 = j := rfl
      rw [e0]
      go_enter Try.func28, Try.ntmps28
      go_wp2
      go_loop [1, 5] (fun x i => x = .int .i64 j ∧ i = .int .i64 0) (fun _ _ => 0)
      case atStart => exact ⟨rfl, rfl⟩
      case round =>
        obtain ⟨rfl, rfl⟩ := hrel
        go_wp2
        go_ret
        exact ⟨rfl, rfl⟩
    obtain ⟨J, hJ⟩ : ∃ x, x = j + sumN n 0 := ⟨_, rfl⟩
    rw [← hJ] at C ⊢
    clear hJ
    go_enter Try.func20, Try.ntmps20
    go_wp2_with fail
    refine C.mono ?_
    rintro e w2 ⟨rfl, hw2⟩
    obtain rfl := hw2.symm
    go_wp2
    go_ret
    exact ⟨rfl, .inl ⟨rfl, rfl⟩, c0⟩
  · have h' := h.alloc (.cells #[.int .i64 c, v] 36)
    have hsl : ∃ ao cap, v = .slice ao R cap := by
      obtain ⟨g, cap, e, hE⟩ := h
      exact ⟨_, _, hE.val⟩
    obtain ⟨ao, cap, rfl⟩ := hsl
    clear h
    have hhi2 : hi ≤ (w.alloc (.cells #[.int .i64 c, .slice ao R cap] 36)).heap.size := by simp; omega
    have C := markByteSS_full _ R n f lo hi j hj hR hs _ h' hhi2
    obtain ⟨J, hJ⟩ : ∃ x, x = j + sumN n R := ⟨_, rfl⟩
    rw [← hJ] at C ⊢
    clear hJ h'
    go_enter Try.func20, Try.ntmps20
    go_wp2_with fail
    refine C.mono ?_
    rintro e w2 ⟨rfl, ho, hout⟩
    clear C
    go_wp2
    go_ret
    exact ⟨rfl, .inr ho, c0.trans hout⟩
theorem heldListsR_any (c : Int) (v : Value) (R : Nat) (n : Nat → Nat) (hi : Nat) (j : Nat) (hj : j ≤ 100000000) (hR : R ≤ 100000000) (hs : sumN n R ≤ 100000000) (w : World) (h : RdM w hi v R n (marksM j n)) (hh : hi ≤ w.heap.size) :
    Calls Try.prog 21 #[bytesR c v, .int .i64 j] w fun e w' => e = .returned (.int .i64 ((j + sumN n R : Nat) : Int)) ∧ Below w.heap.size w w' := by
  unfold bytesR
  have hb : Below w.heap.size w (w.alloc (.cells #[.int .i64 c, v] 36)) := (Below.refl _ _).alloc (Nat.le_refl _) _
  have C := heldByteSS_any v R n hi j hj hR hs _ (h.below hb hh)
  obtain ⟨ao, cap, e, rfl, hm, hc⟩ := h
  obtain ⟨J, hJ⟩ : ∃ x, x = j + sumN n R := ⟨_, rfl⟩
  rw [← hJ] at C ⊢
  have hJ0 : decide ((J : Int) < 0) = false := by simp
  clear hc hJ
  go_enter Try.func21, Try.ntmps21
  go_wp2_with fail
  refine C.mono ?_
  rintro e w2 ⟨rfl, hw2⟩
  obtain rfl := hw2.symm
  clear C
  go_wp2
  go_ret
  exact ⟨rfl, hb⟩
end Go.Proofs.Ytdnankopblkblak
