/- Walks of the laws' helpers over slices of texts: a comparison, a marking. -/
import Derived.Test.YthncbkgklhbcjaaWStrs
import Derived.Test.YthncbkgklhbcjaaMarkT
import Derived.Deep.RegionWith
namespace Go.Proofs.Ythncbkgklhbcjaa
open Go.RowKit F256
set_option linter.unusedVariables false
set_option linter.unusedSimpArgs false

/-- the marks from k on -/
def marksT (k : Nat) : Nat → ByteArray := fun i => markT (k + i)

set_option maxHeartbeats 400000 in
theorem eqStringS_same (v1 v2 : Value) (n : Nat) (f : Nat → ByteArray) (h1 h2 : Nat) (w : World) (r1 : RdS w h1 v1 n f) (r2 : RdS w h2 v2 n f) :
    Calls Try.prog 13 #[v1, v2] w fun e w' => e = .returned (.bool true) ∧ Below w.heap.size w w' := by
  obtain ⟨ao, cap, rfl, hm, hc⟩ := r1
  obtain ⟨ao2, cap2, rfl, _, hc2⟩ := r2
  unfold maxLen at hm
  go_enter Try.func13, Try.ntmps13
  go_wp2
  go_loopw [5] (fun i wr => ∃ k : Nat, k ≤ n ∧ i = .int .i64 k ∧ ∃ m, wr = w.drewN m) (fun i _ => n - (intOf i).toNat)
  case atStart => exact ⟨0, Nat.zero_le _, rfl, 0, rfl⟩
  case round =>
    obtain ⟨k, hk, rfl, m, rfl⟩ := hrel
    by_cases hlt : k < n
    · obtain ⟨b, off, rfl, hblt, hcell⟩ := hc (by omega)
      obtain ⟨b2, off2, rfl, hblt2, hcell2⟩ := hc2 (by omega)
      have hck : w.cell? ⟨b, off + k, none⟩ = some (.string (f k)) := hcell k hlt
      have hck2 : w.cell? ⟨b2, off2 + k, none⟩ = some (.string (f k)) := hcell2 k hlt
      clear hc hc2 hcell hcell2
      go_wp2
      go_quiet (fail)
      go_wp2
      go_roundw
      case rel => exact ⟨k + 1, by omega, by go_num, _, rfl⟩
      case measure => simp [intOf]; omega
    · have hkn : k = n := by omega
      subst hkn
      go_wp2
      go_ret
      exact ⟨rfl, below_drewN (Below.refl _ _) _⟩

set_option maxHeartbeats 800000 in
theorem markStringS_any (v : Value) (n : Nat) (f : Nat → ByteArray) (lo hi : Nat) (j : Nat) (hj0 : 0 < j) (hj : j ≤ 1000) (hn : n ≤ 100000000) (w : World) (h : OwnS w lo hi v n f) (hhi : hi ≤ w.heap.size) :
    Calls Try.prog 14 #[v, .int .i64 j] w fun e w' => e = .returned (.int .i64 ((j + n : Nat) : Int)) ∧ OwnS w' lo hi v n (marksT j) ∧ Chg lo hi w w' := by
  by_cases h0 : n = 0
  · subst h0
    have hown := h.congr (g := marksT j) (fun i hi => by omega)
    obtain ⟨ao, cap, rfl⟩ := h.slice
    clear h
    go_enter Try.func14, Try.ntmps14
    go_wp2
    go_loopw [1, 5] (fun x i wr => x = .int .i64 j ∧ i = .int .i64 0 ∧ wr = w) (fun _ _ _ => 0)
    case atStart => exact ⟨rfl, rfl, rfl⟩
    case round =>
      obtain ⟨rfl, rfl, rfl⟩ := hrel
      go_wp2
      go_ret
      exact ⟨ret_eq (by omega), hown, ⟨rfl, rfl, rfl, Nat.le_refl _, fun _ _ _ => rfl⟩⟩
  · obtain ⟨g, cap, rfl, hlo, hlt0, hgs, hcap⟩ := h.form h0
    go_enter Try.func14, Try.ntmps14
    go_wp2
    go_loopw [1, 5] (fun x i wr => ∃ k : Nat, k ≤ n ∧ i = .int .i64 k ∧ x = .int .i64 ((j + k : Nat) : Int) ∧ OwnS wr lo hi (.slice (some ⟨g, 0, none⟩) n cap) n (fun i => if i < k then marksT j i else f i) ∧ Chg lo hi w wr) (fun _ i _ => n - (intOf i).toNat)
    case atStart => exact ⟨0, Nat.zero_le _, rfl, rfl, h, ⟨rfl, rfl, rfl, Nat.le_refl _, fun _ _ _ => rfl⟩⟩
    case round =>
      obtain ⟨k, hk, rfl, rfl, hown, hout⟩ := hrel
      by_cases hlt : k < n
      · have C := markText_any (j + k) (by omega) (by omega) wr
        clear h
        go_wp2_with fail
        refine C.mono ?_
        rintro e w2 ⟨rfl, b2⟩
        have own2 := hown.below b2 (by have := hout.size; omega)
        have hco : ∃ u, w2.cell? ⟨g, k, none⟩ = some u := by
          have := own2.1.cellAt k (by omega)
          exact ⟨_, by rw [this, strsOf_get _ _ _ hlt]⟩
        obtain ⟨u, hco⟩ := hco
        have hfo : w2.frozen? ⟨g, k, none⟩ = false := own2.1.frozenAt k
        have R : OwnS (w2.setCell ⟨g, k, none⟩ (.string (marksT j k))) lo hi (.slice (some ⟨g, 0, none⟩) n cap) n (fun i => if i < k + 1 then marksT j i else f i) :=
          own2.store k (marksT j k) hlt (fun i _ => by by_cases e : i = k <;> simp [e] <;> by_cases e' : i < k <;> simp [e'] <;> omega)
        have R2 : Chg lo hi w (w2.setCell ⟨g, k, none⟩ (.string (marksT j k))) := (hout.trans (Below.chg b2 lo hi)).trans (out_store w2 lo hi g k _ hlo hlt0).chg
        clear hown hout own2 C b2
        go_wp2
        go_roundw
        case rel => exact ⟨k + 1, by omega, by go_num, val_eq (by omega), R, R2⟩
        case measure => simp [intOf]; omega
      · have hkn : k = n := by omega
        subst hkn
        go_wp2
        go_ret
        exact ⟨rfl, hown.congr (fun i hi => by simp [hi]), hout⟩

set_option maxHeartbeats 800000 in
theorem heldStringS_any (v : Value) (n : Nat) (hi : Nat) (j : Nat) (hj0 : 0 < j) (hj : j ≤ 1000) (hn : n ≤ 100000000) (w : World) (h : RdS w hi v n (marksT j)) (hhi : hi ≤ w.heap.size) :
    Calls Try.prog 15 #[v, .int .i64 j] w fun e w' => e = .returned (.int .i64 ((j + n : Nat) : Int)) ∧ Below w.heap.size w w' := by
  obtain ⟨ao, cap, rfl, hm, hc⟩ := h
  go_enter Try.func15, Try.ntmps15
  go_wp2
  go_loopw [1, 5] (fun x i wr => ∃ k : Nat, k ≤ n ∧ i = .int .i64 k ∧ x = .int .i64 ((j + k : Nat) : Int) ∧ Below w.heap.size w wr) (fun _ i _ => n - (intOf i).toNat)
  case atStart => exact ⟨0, Nat.zero_le _, rfl, rfl, Below.refl _ _⟩
  case round =>
    obtain ⟨k, hk, rfl, rfl, hb⟩ := hrel
    by_cases hlt : k < n
    · obtain ⟨b, off, rfl, hblt, hcell⟩ := hc (by omega)
      have hck : wr.cell? ⟨b, off + k, none⟩ = some (.string (markT (j + k))) := (hb.cell (p := ⟨b, off + k, none⟩) (by show b < w.heap.size; omega)).trans (hcell k hlt)
      have C := fun w' => markText_any (j + k) (by omega) (by omega) w'
      have HB : Hid (Below w.heap.size w wr) := hb
      have zb := hb.size
      clear hc hcell hb
      go_wp2_with fail
      go_region_with (go_at_call 28; refine (C _).mono ?_; rintro ee w1 ⟨rfl, bt⟩; have bt' : Below wr.heap.size wr w1 := (below_drewN (Below.refl _ _) 1).trans bt; have cx : w1.cell? ⟨b, off + k, none⟩ = some (.string (markT (j + k))) := (bt'.cell (p := ⟨b, off + k, none⟩) (by show b < wr.heap.size; omega)).trans hck)
      all_goals
        go_wp2
        go_roundw
        case rel => exact ⟨k + 1, by omega, by go_num, val_eq (by omega), HB.out.trans (bt'.mono zb)⟩
        case measure => simp [intOf]; omega
    · have hkn : k = n := by omega
      subst hkn
      go_wp2
      go_ret
      exact ⟨rfl, hb⟩
end Go.Proofs.Ythncbkgklhbcjaa
