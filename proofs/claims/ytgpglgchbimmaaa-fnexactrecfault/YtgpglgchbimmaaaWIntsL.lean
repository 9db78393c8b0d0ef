/- Walks of the laws' helpers over slices of numbers: a copy, a comparison, a marking. -/
import Derived.Test.YtgpglgchbimmaaaWInts
import Derived.Test.YtgpglgchbimmaaaWBytes
namespace Go.Proofs.Ytgpglgchbimmaaa
open Go.RowKit F256
set_option linter.unusedVariables false
set_option linter.unusedSimpArgs false

/-- the marks from k on -/
def marksI (k : Nat) : Nat → Int := fun i => (k : Int) + (i : Int)
theorem marksI_val (j k : Nat) : marksI j k = (j : Int) + (k : Int) := rfl

set_option maxHeartbeats 400000 in
theorem toInt64S_any (v : Value) (n : Nat) (f : Nat → Int) (hi : Nat) (w : World) (h : RdI w hi v n f) (hhi : hi ≤ w.heap.size) (hn : n ≤ 1000000000) :
    Calls Try.prog 25 #[v] w fun e w' => ∃ v', e = .returned v' ∧ OwnI w' w.heap.size w'.heap.size v' n f ∧ Below w.heap.size w w' := by
  obtain ⟨ao, cap, rfl, hm, hc⟩ := h
  go_enter Try.func25, Try.ntmps25
  go_wp2_with (at_make; refine wp_makeI _ rfl _ _ rfl _ _ n rfl rfl rfl rfl hn ?_; intro w1 hown1 hb1 hz1)
  go_loopw [4] (fun i wr => ∃ k : Nat, k ≤ n ∧ i = .int .i64 k ∧ OwnI wr w.heap.size w1.heap.size (.slice (some ⟨w.heap.size, 0, none⟩) n n) n (fun i => if i < k then f i else 0) ∧ Below w.heap.size w wr ∧ wr.heap.size = w1.heap.size) (fun i _ => n - (intOf i).toNat)
  case atStart => exact ⟨0, Nat.zero_le _, rfl, hown1, hb1, rfl⟩
  case round =>
    obtain ⟨k, hk, rfl, hown, hb, hz⟩ := hrel
    by_cases hlt : k < n
    · obtain ⟨b, off, rfl, hblt, hcell⟩ := hc (by omega)
      have hck : wr.cell? ⟨b, off + k, none⟩ = some (.int .i64 (f k)) := (hb.cell (p := ⟨b, off + k, none⟩) (by show b < w.heap.size; omega)).trans (hcell k hlt)
      have hco : wr.cell? ⟨w.heap.size, k, none⟩ = some (.int .i64 0) := by
        have := hown.1.cellAt k (by omega)
        rw [this, intsOf_get _ _ _ hlt, if_neg (Nat.lt_irrefl k)]
      have hfo : wr.frozen? ⟨w.heap.size, k, none⟩ = false := hown.1.frozenAt k
      have R : OwnI (wr.setCell ⟨w.heap.size, k, none⟩ (.int .i64 (f k))) w.heap.size w1.heap.size (.slice (some ⟨w.heap.size, 0, none⟩) n n) n (fun i => if i < k + 1 then f i else 0) :=
        hown.store k (f k) hlt (fun i _ => by by_cases e : i = k <;> simp [e] <;> by_cases e' : i < k <;> simp [e'] <;> omega)
      have R2 : Below w.heap.size w (wr.setCell ⟨w.heap.size, k, none⟩ (.int .i64 (f k))) := hb.setCell (Nat.le_refl _) _
      clear hown hb hc hcell
      go_wp2
      go_roundw
      case rel => exact ⟨k + 1, by omega, by go_num, R, R2, by simpa using hz⟩
      case measure => simp [intOf]; omega
    · have hkn : k = n := by omega
      subst hkn
      go_wp2
      go_ret
      exact ⟨_, rfl, (hown.congr (fun i hi => by simp [hi])).mono (by omega), hb⟩

set_option maxHeartbeats 400000 in
theorem eqInt64S_same (v1 v2 : Value) (n : Nat) (f : Nat → Int) (h1 h2 : Nat) (w : World) (r1 : RdI w h1 v1 n f) (r2 : RdI w h2 v2 n f) :
    Calls Try.prog 37 #[v1, v2] w fun e w' => e = .returned (.bool true) ∧ Below w.heap.size w w' := by
  obtain ⟨ao, cap, rfl, hm, hc⟩ := r1
  obtain ⟨ao2, cap2, rfl, _, hc2⟩ := r2
  unfold maxLen at hm
  go_enter Try.func37, Try.ntmps37
  go_wp2
  go_loopw [5] (fun i wr => ∃ k : Nat, k ≤ n ∧ i = .int .i64 k ∧ ∃ m, wr = w.drewN m) (fun i _ => n - (intOf i).toNat)
  case atStart => exact ⟨0, Nat.zero_le _, rfl, 0, rfl⟩
  case round =>
    obtain ⟨k, hk, rfl, m, rfl⟩ := hrel
    by_cases hlt : k < n
    · obtain ⟨b, off, rfl, hblt, hcell⟩ := hc (by omega)
      obtain ⟨b2, off2, rfl, hblt2, hcell2⟩ := hc2 (by omega)
      have hck : w.cell? ⟨b, off + k, none⟩ = some (.int .i64 (f k)) := hcell k hlt
      have hck2 : w.cell? ⟨b2, off2 + k, none⟩ = some (.int .i64 (f k)) := hcell2 k hlt
      clear hc hc2 hcell hcell2
      go_wp2
      go_quiet (fail)
      go_wp2
      go_roundw
      case rel => exact ⟨k + 1, by omega, by go_num, _, rfl⟩
      case measure => simp [intOf]; omega
    · have hkn : k = n := by omega
      subst hkn
      go_wp2
      go_ret
      exact ⟨rfl, below_drewN (Below.refl _ _) _⟩

end Go.Proofs.Ytgpglgchbimmaaa
