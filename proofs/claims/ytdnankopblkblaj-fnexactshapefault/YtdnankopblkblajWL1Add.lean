/- Walk of sums of bytes: the specification's l1Add. -/
import Derived.Test.YtdnankopblkblajWBytes
import Derived.Deep.RegionLaw
namespace Go.Proofs.Ytdnankopblkblaj
open Go.RowKit F256

theorem u8_xor_cast {x y : Nat} (hx : x < 256) (hy : y < 256) : bits .xor .u8 (x : Int) (y : Int) = ((x ^^^ y : Nat) : Int) := u8_xor_nat x y hx hy

set_option maxHeartbeats 1000000 in
theorem l1Add_any (v1 v2 : Value) (n : Nat) (f1 f2 g : Nat → Nat) (h1 h2 : Nat) (w : World) (r1 : Rd w h1 v1 n f1) (r2 : Rd w h2 v2 n f2) (b1 : h1 ≤ w.heap.size) (b2 : h2 ≤ w.heap.size)
    (k1 : ∀ i, f1 i < 256) (k2 : ∀ i, f2 i < 256) (hg : ∀ i, i < n → g i = f1 i ^^^ f2 i) (hn : n ≤ 1000000000) :
    Calls Try.prog 60 #[v1, v2] w fun e w' => ∃ v', e = .returned v' ∧ Own w' w.heap.size w'.heap.size v' n g ∧ Below w.heap.size w w' := by
  obtain ⟨ao, cap, rfl, hm, hc⟩ := r1
  obtain ⟨ao2, cap2, rfl, _, hc2⟩ := r2
  have HG : Hid (∀ i, i < n → g i = f1 i ^^^ f2 i) := hg
  clear hg
  go_enter Try.func60, Try.ntmps60
  go_wp2
  go_loopw [5, 6] (fun v i wr => ∃ k : Nat, k ≤ n ∧ i = .int .i64 k ∧ Own wr w.heap.size wr.heap.size v k g ∧ Below w.heap.size w wr) (fun _ i _ => n - (intOf i).toNat)
  case atStart => exact ⟨0, Nat.zero_le _, rfl, own_lit0 w g, (Below.refl _ _).alloc (Nat.le_refl _) _⟩
  case round =>
    obtain ⟨k, hk, rfl, hown, hb⟩ := hrel
    by_cases hlt : k < n
    · obtain ⟨b, off, rfl, hblt, hcell⟩ := hc (by omega)
      obtain ⟨b2, off2, rfl, hblt2, hcell2⟩ := hc2 (by omega)
      have hck : wr.cell? ⟨b, off + k, none⟩ = some (.int .u8 (f1 k)) := (hb.cell (p := ⟨b, off + k, none⟩) (by show b < w.heap.size; omega)).trans (hcell k hlt)
      have hck2 : wr.cell? ⟨b2, off2 + k, none⟩ = some (.int .u8 (f2 k)) := (hb.cell (p := ⟨b2, off2 + k, none⟩) (by show b2 < w.heap.size; omega)).trans (hcell2 k hlt)
      have hx : bits .xor .u8 (f1 k : Int) (f2 k : Int) = ((g k : Nat) : Int) := by rw [u8_xor_cast (k1 k) (k2 k), HG.out k hlt]
      have hsz := hb.size
      clear hc hc2 hcell hcell2
      go_wp2
      go_region_law (refine step_appendB rfl (.tmp 14) (.tmp 24) rfl w.heap.size wr.heap.size u5 k g ?_ ?_ wr.heap.size 1 ?_ ?_ ?_ ?_ ?_; (simp [Act.eval]); exact hown.alloc _; (simp [Act.eval]); simp; omega; (simp; omega); intro v' w1 hown1 hb1)
      all_goals
        have R := ((hb.alloc hsz _).drew).trans hb1
        clear hb1 hb hown
        go_wp2
        go_roundw
        case rel => exact ⟨k + 1, by omega, by go_num, hown1, R⟩
        case measure => simp [intOf]; omega
    · have hkn : k = n := by omega
      subst hkn
      go_wp2
      go_ret
      exact ⟨_, rfl, hown, hb⟩

end Go.Proofs.Ytdnankopblkblaj
