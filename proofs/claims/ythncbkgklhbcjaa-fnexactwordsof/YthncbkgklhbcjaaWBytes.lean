/- Walks of the laws' helpers over slices of bytes: a copy, a comparison, a marking, a look at marks. -/
import Derived.Test.YthncbkgklhbcjaaOwn
import Derived.BigQuiet
import Derived.Deep.QuietTactic
namespace Go.Proofs.Ythncbkgklhbcjaa
open Go.RowKit F256

set_option maxHeartbeats 400000 in
theorem eqByteS_same (v1 v2 : Value) (n : Nat) (f : Nat → Nat) (h1 h2 : Nat) (w : World) (r1 : Rd w h1 v1 n f) (r2 : Rd w h2 v2 n f) :
    Calls Try.prog 22 #[v1, v2] w fun e w' => e = .returned (.bool true) ∧ Below w.heap.size w w' := by
  obtain ⟨ao, cap, rfl, hm, hc⟩ := r1
  obtain ⟨ao2, cap2, rfl, _, hc2⟩ := r2
  unfold maxLen at hm
  go_enter Try.func22, Try.ntmps22
  go_wp2
  go_loopw [5] (fun i wr => ∃ k : Nat, k ≤ n ∧ i = .int .i64 k ∧ ∃ m, wr = w.drewN m) (fun i _ => n - (intOf i).toNat)
  case atStart => exact ⟨0, Nat.zero_le _, rfl, 0, rfl⟩
  case round =>
    obtain ⟨k, hk, rfl, m, rfl⟩ := hrel
    by_cases hlt : k < n
    · obtain ⟨b, off, rfl, hblt, hcell⟩ := hc (by omega)
      obtain ⟨b2, off2, rfl, hblt2, hcell2⟩ := hc2 (by omega)
      have hck : w.cell? ⟨b, off + k, none⟩ = some (.int .u8 (f k)) := hcell k hlt
      have hck2 : w.cell? ⟨b2, off2 + k, none⟩ = some (.int .u8 (f k)) := hcell2 k hlt
      clear hc hc2 hcell hcell2
      go_wp2
      go_quiet (fail)
      go_wp2
      go_roundw
      case rel => exact ⟨k + 1, by omega, by go_num, _, rfl⟩
      case measure => simp [intOf]; omega
    · have hkn : k = n := by omega
      subst hkn
      go_wp2
      go_ret
      exact ⟨rfl, below_drewN (Below.refl _ _) _⟩

/-- the marks from k on -/
def marks (k : Nat) : Nat → Nat := fun i => (k + i) % 256
theorem marks_val (j k : Nat) : ((marks j k : Nat) : Int) = ((j : Int) + (k : Int)) % 256 := by unfold marks; omega

set_option maxHeartbeats 400000 in
theorem markByteS_any (v : Value) (n : Nat) (f : Nat → Nat) (lo hi : Nat) (j : Nat) (hj : j ≤ 1000000000) (hn : n ≤ 1000000000) (w : World) (h : Own w lo hi v n f) :
    Calls Try.prog 23 #[v, .int .i64 j] w fun e w' => e = .returned (.int .i64 ((j + n : Nat) : Int)) ∧ Own w' lo hi v n (marks j) ∧ Out lo hi w w' := by
  by_cases h0 : n = 0
  · subst h0
    have hown := h.congr (g := marks j) (fun i hi => by omega)
    obtain ⟨ao, cap, rfl⟩ := h.slice
    clear h
    go_enter Try.func23, Try.ntmps23
    go_wp2
    go_loopw [1, 5] (fun x i wr => x = .int .i64 j ∧ i = .int .i64 0 ∧ wr = w) (fun _ _ _ => 0)
    case atStart => exact ⟨rfl, rfl, rfl⟩
    case round =>
      obtain ⟨rfl, rfl, rfl⟩ := hrel
      go_wp2
      go_ret
      exact ⟨ret_eq (by omega), hown, Out.refl _ _ _⟩
  · obtain ⟨g, cap, rfl, hlo, hhi, hgs, hcap⟩ := h.form h0
    go_enter Try.func23, Try.ntmps23
    go_wp2
    go_loopw [1, 5] (fun x i wr => ∃ k : Nat, k ≤ n ∧ i = .int .i64 k ∧ x = .int .i64 ((j + k : Nat) : Int) ∧ Own wr lo hi (.slice (some ⟨g, 0, none⟩) n cap) n (fun i => if i < k then marks j i else f i) ∧ Out lo hi w wr) (fun _ i _ => n - (intOf i).toNat)
    case atStart => exact ⟨0, Nat.zero_le _, rfl, rfl, h, Out.refl _ _ _⟩
    case round =>
      obtain ⟨k, hk, rfl, rfl, hown, hout⟩ := hrel
      by_cases hlt : k < n
      · have hco : ∃ u, wr.cell? ⟨g, k, none⟩ = some u := by
          have := hown.1.cellAt k (by omega)
          exact ⟨_, by rw [this, cellsOf_get _ _ _ hlt]⟩
        obtain ⟨u, hco⟩ := hco
        have hfo : wr.frozen? ⟨g, k, none⟩ = false := hown.1.frozenAt k
        have R : Own (wr.setCell ⟨g, k, none⟩ (.int .u8 (marks j k))) lo hi (.slice (some ⟨g, 0, none⟩) n cap) n (fun i => if i < k + 1 then marks j i else f i) :=
          hown.store k (marks j k) hlt (fun i _ => by by_cases e : i = k <;> simp [e] <;> by_cases e' : i < k <;> simp [e'] <;> omega)
        have R2 : Out lo hi w (wr.setCell ⟨g, k, none⟩ (.int .u8 (marks j k))) := hout.trans (out_store wr lo hi g k _ hlo hhi)
        clear hown hout h
        go_wp2
        go_roundw
        case rel => exact ⟨k + 1, by omega, by go_num, val_eq (by omega), by rw [← marks_val]; exact R, by rw [← marks_val]; exact R2⟩
        case measure => simp [intOf]; omega
      · have hkn : k = n := by omega
        subst hkn
        go_wp2
        go_ret
        exact ⟨rfl, hown.congr (fun i hi => by simp [hi]), hout⟩

set_option maxHeartbeats 400000 in
theorem heldByteS_any (v : Value) (n : Nat) (hi : Nat) (j : Nat) (hj : j ≤ 1000000000) (hn : n ≤ 1000000000) (w : World) (h : Rd w hi v n (marks j)) :
    Calls Try.prog 24 #[v, .int .i64 j] w fun e w' => e = .returned (.int .i64 ((j + n : Nat) : Int)) ∧ w' = w := by
  obtain ⟨ao, cap, rfl, hm, hc⟩ := h
  go_enter Try.func24, Try.ntmps24
  go_wp2
  go_loop [1, 5] (fun x i => ∃ k : Nat, k ≤ n ∧ i = .int .i64 k ∧ x = .int .i64 ((j + k : Nat) : Int)) (fun _ i => n - (intOf i).toNat)
  case atStart => exact ⟨0, Nat.zero_le _, rfl, rfl⟩
  case round =>
    obtain ⟨k, hk, rfl, rfl⟩ := hrel
    by_cases hlt : k < n
    · obtain ⟨b, off, rfl, hblt, hcell⟩ := hc (by omega)
      have hck : w.cell? ⟨b, off + k, none⟩ = some (.int .u8 (((j : Int) + (k : Int)) % 256)) := by rw [← marks_val]; exact hcell k hlt
      clear hc hcell
      go_wp2
      go_round
      case rel => exact ⟨k + 1, by omega, by go_num, val_eq (by omega)⟩
      case measure => simp [intOf]; omega
    · have hkn : k = n := by omega
      subst hkn
      go_wp2
      go_ret
      exact ⟨rfl, rfl⟩

/-- a result with bytes in it -/
def bytesR (c : Int) (v : Value) : Value := .agg #[.int .i64 c, v]

theorem eqBytesR_same (c : Int) (v1 v2 : Value) (n : Nat) (f : Nat → Nat) (h1 h2 : Nat) (w : World) (r1 : Rd w h1 v1 n f) (r2 : Rd w h2 v2 n f) (b1 : h1 ≤ w.heap.size) (b2 : h2 ≤ w.heap.size) :
    Calls Try.prog 8 #[bytesR c v1, bytesR c v2] w fun e w' => e = .returned (.bool true) ∧ Below w.heap.size w w' := by
  unfold bytesR
  obtain ⟨w1, hw1⟩ : ∃ w1, w1 = (w.alloc (.cells #[.int .i64 c, v1] 24)).alloc (.cells #[.int .i64 c, v2] 24) := ⟨_, rfl⟩
  have hb : Below w.heap.size w w1 := by rw [hw1]; exact ((Below.refl _ _).alloc (Nat.le_refl _) _).alloc (by simp) _
  have q1 := r1.below hb b1
  have q2 := r2.below hb b2
  subst hw1
  obtain ⟨ao, cap, rfl, _⟩ := r1
  obtain ⟨ao2, cap2, rfl, _⟩ := r2
  go_enter Try.func8, Try.ntmps8
  go_wp2_with (go_at_call 22; refine (eqByteS_same _ _ n f h1 h2 _ q1 q2).mono ?_; rintro e w2 ⟨rfl, hb2⟩)
  go_ret
  exact ⟨rfl, hb.trans (hb2.mono hb.size)⟩

theorem markBytesR_any (c : Int) (v : Value) (n : Nat) (f : Nat → Nat) (lo hi : Nat) (j : Nat) (hj : j ≤ 1000000000) (hn : n ≤ 1000000000) (w : World) (h : Own w lo hi v n f) :
    Calls Try.prog 9 #[bytesR c v, .int .i64 j] w fun e w' => e = .returned (.int .i64 ((j + n : Nat) : Int)) ∧ Own w' lo hi v n (marks j) ∧ Chg lo hi w w' := by
  unfold bytesR
  have h' := h.alloc (.cells #[.int .i64 c, v] 24)
  obtain ⟨ao, cap, rfl⟩ := h.slice
  clear h
  go_enter Try.func9, Try.ntmps9
  go_wp2_with (go_at_call 23; refine (markByteS_any _ n f lo hi j hj hn _ h').mono ?_; rintro e w2 ⟨rfl, ho, hout⟩)
  go_ret
  exact ⟨rfl, ho, (Below.chg ((Below.refl _ _).alloc (Nat.le_refl _) _) lo hi).trans hout.chg⟩
theorem heldBytesR_any (c : Int) (v : Value) (n : Nat) (hi : Nat) (j : Nat) (hj : j ≤ 1000000000) (hn : n ≤ 1000000000) (w : World) (h : Rd w hi v n (marks j)) (hh : hi ≤ w.heap.size) :
    Calls Try.prog 10 #[bytesR c v, .int .i64 j] w fun e w' => e = .returned (.int .i64 ((j + n : Nat) : Int)) ∧ Below w.heap.size w w' := by
  unfold bytesR
  have hb : Below w.heap.size w (w.alloc (.cells #[.int .i64 c, v] 24)) := (Below.refl _ _).alloc (Nat.le_refl _) _
  have h' := h.below hb hh
  obtain ⟨ao, cap, rfl, hm, hc⟩ := h
  clear hc
  go_enter Try.func10, Try.ntmps10
  go_wp2_with (go_at_call 24; refine (heldByteS_any _ n hi j hj hn _ h').mono ?_; rintro e w2 ⟨rfl, rfl⟩)
  go_ret
  exact ⟨rfl, hb⟩
end Go.Proofs.Ythncbkgklhbcjaa
