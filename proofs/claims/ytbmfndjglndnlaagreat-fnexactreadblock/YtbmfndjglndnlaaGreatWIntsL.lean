/- Walks of the laws' helpers over slices of numbers: a copy, a comparison, a marking. -/
import Derived.Test.YtbmfndjglndnlaaGreatWInts
import Derived.Test.YtbmfndjglndnlaaGreatWBytes
namespace Go.Proofs.YtbmfndjglndnlaaGreat
open Go.RowKit F256
set_option linter.unusedVariables false
set_option linter.unusedSimpArgs false

/-- the marks from k on -/
def marksI (k : Nat) : Nat → Int := fun i => (k : Int) + (i : Int)
theorem marksI_val (j k : Nat) : marksI j k = (j : Int) + (k : Int) := rfl

set_option maxHeartbeats 400000 in
theorem toInt64S_any (v : Value) (n : Nat) (f : Nat → Int) (hi : Nat) (w : World) (h : RdI w hi v n f) (hhi : hi ≤ w.heap.size) (hn : n ≤ 1000000000) :
    Calls Tryz.prog 41 #[v] w fun e w' => ∃ v', e = .returned v' ∧ OwnI w' w.heap.size w'.heap.size v' n f ∧ Below w.heap.size w w' := by
  obtain ⟨ao, cap, rfl, hm, hc⟩ := h
  go_enter Tryz.func41, Tryz.ntmps41
  go_wp2_with (at_make; refine wp_makeI _ rfl _ _ rfl _ _ n rfl rfl rfl rfl hn ?_; intro w1 hown1 hb1 hz1)
  go_loopw [4] (fun i wr => ∃ k : Nat, k ≤ n ∧ i = .int .i64 k ∧ OwnI wr w.heap.size w1.heap.size (.slice (some ⟨w.heap.size, 0, none⟩) n n) n (fun i => if i < k then f i else 0) ∧ Below w.heap.size w wr ∧ wr.heap.size = w1.heap.size) (fun i _ => n - (intOf i).toNat)
  case atStart => exact ⟨0, Nat.zero_le _, rfl, hown1, hb1, rfl⟩
  case round =>
    obtain ⟨k, hk, rfl, hown, hb, hz⟩ := hrel
    by_cases hlt : k < n
    · obtain ⟨b, off, rfl, hblt, hcell⟩ := hc (by omega)
      have hck : wr.cell? ⟨b, off + k, none⟩ = some (.int .i64 (f k)) := (hb.cell (p := ⟨b, off + k, none⟩) (by show b < w.heap.size; omega)).trans (hcell k hlt)
      have hco : wr.cell? ⟨w.heap.size, k, none⟩ = some (.int .i64 0) := by
        have := hown.1.cellAt k (by omega)
        rw [this, intsOf_get _ _ _ hlt, if_neg (Nat.lt_irrefl k)]
      have hfo : wr.frozen? ⟨w.heap.size, k, none⟩ = false := hown.1.frozenAt k
      have R : OwnI (wr.setCell ⟨w.heap.size, k, none⟩ (.int .i64 (f k))) w.heap.size w1.heap.size (.slice (some ⟨w.heap.size, 0, none⟩) n n) n (fun i => if i < k + 1 then f i else 0) :=
        hown.store k (f k) hlt (fun i _ => by by_cases e : i = k <;> simp [e] <;> by_cases e' : i < k <;> simp [e'] <;> omega)
      have R2 : Below w.heap.size w (wr.setCell ⟨w.heap.size, k, none⟩ (.int .i64 (f k))) := hb.setCell (Nat.le_refl _) _
      clear hown hb hc hcell
      go_wp2
      go_roundw
      case rel => exact ⟨k + 1, by omega, by go_num, R, R2, by simpa using hz⟩
      case measure => simp [intOf]; omega
    · have hkn : k = n := by omega
      subst hkn
      go_wp2
      go_ret
      exact ⟨_, rfl, (hown.congr (fun i hi => by simp [hi])).mono (by omega), hb⟩

set_option maxHeartbeats 400000 in
theorem eqInt64S_same (v1 v2 : Value) (n : Nat) (f : Nat → Int) (h1 h2 : Nat) (w : World) (r1 : RdI w h1 v1 n f) (r2 : RdI w h2 v2 n f) :
    Calls Tryz.prog 49 #[v1, v2] w fun e w' => e = .returned (.bool true) ∧ Below w.heap.size w w' := by
  obtain ⟨ao, cap, rfl, hm, hc⟩ := r1
  obtain ⟨ao2, cap2, rfl, _, hc2⟩ := r2
  unfold maxLen at hm
  go_enter Tryz.func49, Tryz.ntmps49
  go_wp2
  go_loopw [5] (fun i wr => ∃ k : Nat, k ≤ n ∧ i = .int .i64 k ∧ ∃ m, wr = w.drewN m) (fun i _ => n - (intOf i).toNat)
  case atStart => exact ⟨0, Nat.zero_le _, rfl, 0, rfl⟩
  case round =>
    obtain ⟨k, hk, rfl, m, rfl⟩ := hrel
    by_cases hlt : k < n
    · obtain ⟨b, off, rfl, hblt, hcell⟩ := hc (by omega)
      obtain ⟨b2, off2, rfl, hblt2, hcell2⟩ := hc2 (by omega)
      have hck : w.cell? ⟨b, off + k, none⟩ = some (.int .i64 (f k)) := hcell k hlt
      have hck2 : w.cell? ⟨b2, off2 + k, none⟩ = some (.int .i64 (f k)) := hcell2 k hlt
      clear hc hc2 hcell hcell2
      go_wp2
      go_quiet (fail)
      go_wp2
      go_roundw
      case rel => exact ⟨k + 1, by omega, by go_num, _, rfl⟩
      case measure => simp [intOf]; omega
    · have hkn : k = n := by omega
      subst hkn
      go_wp2
      go_ret
      exact ⟨rfl, below_drewN (Below.refl _ _) _⟩

set_option maxHeartbeats 400000 in
theorem markInt64S_any (v : Value) (n : Nat) (f : Nat → Int) (lo hi : Nat) (j : Nat) (hj : j ≤ 1000000000) (hn : n ≤ 1000000000) (w : World) (h : OwnI w lo hi v n f) :
    Calls Tryz.prog 52 #[v, .int .i64 j] w fun e w' => e = .returned (.int .i64 ((j + n : Nat) : Int)) ∧ OwnI w' lo hi v n (marksI j) ∧ Out lo hi w w' := by
  by_cases h0 : n = 0
  · subst h0
    have hown := h.congr (g := marksI j) (fun i hi => by omega)
    obtain ⟨ao, cap, rfl⟩ := h.slice
    clear h
    go_enter Tryz.func52, Tryz.ntmps52
    go_wp2
    go_loopw [1, 5] (fun x i wr => x = .int .i64 j ∧ i = .int .i64 0 ∧ wr = w) (fun _ _ _ => 0)
    case atStart => exact ⟨rfl, rfl, rfl⟩
    case round =>
      obtain ⟨rfl, rfl, rfl⟩ := hrel
      go_wp2
      go_ret
      exact ⟨ret_eq (by omega), hown, Out.refl _ _ _⟩
  · obtain ⟨g, cap, rfl, hlo, hhi, hgs, hcap⟩ := h.form h0
    go_enter Tryz.func52, Tryz.ntmps52
    go_wp2
    go_loopw [1, 5] (fun x i wr => ∃ k : Nat, k ≤ n ∧ i = .int .i64 k ∧ x = .int .i64 ((j + k : Nat) : Int) ∧ OwnI wr lo hi (.slice (some ⟨g, 0, none⟩) n cap) n (fun i => if i < k then marksI j i else f i) ∧ Out lo hi w wr) (fun _ i _ => n - (intOf i).toNat)
    case atStart => exact ⟨0, Nat.zero_le _, rfl, rfl, h, Out.refl _ _ _⟩
    case round =>
      obtain ⟨k, hk, rfl, rfl, hown, hout⟩ := hrel
      by_cases hlt : k < n
      · have hco : ∃ u, wr.cell? ⟨g, k, none⟩ = some u := by
          have := hown.1.cellAt k (by omega)
          exact ⟨_, by rw [this, intsOf_get _ _ _ hlt]⟩
        obtain ⟨u, hco⟩ := hco
        have hfo : wr.frozen? ⟨g, k, none⟩ = false := hown.1.frozenAt k
        have R : OwnI (wr.setCell ⟨g, k, none⟩ (.int .i64 (marksI j k))) lo hi (.slice (some ⟨g, 0, none⟩) n cap) n (fun i => if i < k + 1 then marksI j i else f i) :=
          hown.store k (marksI j k) hlt (fun i _ => by by_cases e : i = k <;> simp [e] <;> by_cases e' : i < k <;> simp [e'] <;> omega)
        have R2 : Out lo hi w (wr.setCell ⟨g, k, none⟩ (.int .i64 (marksI j k))) := hout.trans (out_store wr lo hi g k _ hlo hhi)
        clear hown hout h
        go_wp2
        go_roundw
        case rel => exact ⟨k + 1, by omega, by go_num, val_eq (by omega), by rw [← marksI_val]; exact R, by rw [← marksI_val]; exact R2⟩
        case measure => simp [intOf]; omega
      · have hkn : k = n := by omega
        subst hkn
        go_wp2
        go_ret
        exact ⟨rfl, hown.congr (fun i hi => by simp [hi]), hout⟩

end Go.Proofs.YtbmfndjglndnlaaGreat
