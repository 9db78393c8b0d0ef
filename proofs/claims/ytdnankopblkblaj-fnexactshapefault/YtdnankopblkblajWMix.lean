/- Walks of the two MixBytes. -/
import Derived.Test.YtdnankopblkblajWBytess
import Derived.Test.YtdnankopblkblajWSz
import Derived.Test.YtdnankopblkblajWScale
import Derived.Test.YtdnankopblkblajWL1Add
namespace Go.Proofs.Ytdnankopblkblaj
open Go.RowKit F256
set_option linter.unusedVariables false
set_option linter.unusedSimpArgs false

/-- the sum of the first k rows, each scaled by its byte, in the place j -/
def mixN (f : Nat → Nat → Nat) (c : Nat → Nat) : Nat → Nat → Nat
  | 0, _ => 0
  | k + 1, j => mixN f c k j ^^^ mulN (c k) (f k j)
theorem mixN_lt (f : Nat → Nat → Nat) (c : Nat → Nat) (hc : ∀ i, c i < 256) : ∀ k j, mixN f c k j < 256
  | 0, _ => by simp [mixN]
  | k + 1, j => by simp only [mixN]; exact xor_lt (mixN_lt f c hc k j) (mulN_lt (hc k))

theorem undrewN {B : Nat} {w w2 : World} {m : Nat} (h : Below B (w.drewN m) w2) : Below B w w2 := ⟨h.os, h.tape, h.output, h.size, h.block⟩

set_option maxHeartbeats 2000000 in
theorem l1Mix_any (v1 v2 : Value) (R N : Nat) (n : Nat → Nat) (f : Nat → Nat → Nat) (c : Nat → Nat) (h1 h2 : Nat) (w : World) (r1 : RdM w h1 v1 R n f) (r2 : Rd w h2 v2 R c) (hh1 : h1 ≤ w.heap.size) (hh2 : h2 ≤ w.heap.size)
    (hR : 0 < R) (hN : ∀ i, i < R → n i = N) (hN2 : N ≤ 1000000000) (kf : ∀ i j, f i j < 256) (kc : ∀ i, c i < 256) :
    Calls Try.prog 51 #[v1, v2] w fun e w' => ∃ v', e = .returned v' ∧ Own w' w.heap.size w'.heap.size v' N (mixN f c R) ∧ Below w.heap.size w w' := by
  obtain ⟨ao, cap, e, rfl, hm, hc, he⟩ := r1
  obtain ⟨ao2, cap2, rfl, hm2, hc2⟩ := r2
  unfold maxLen at hm
  obtain ⟨b, off, rfl, hblt, hcell⟩ := hc (by omega)
  obtain ⟨b2, off2, rfl, hblt2, hcell2⟩ := hc2 (by omega)
  have hc0 : w.cell? ⟨b, off, none⟩ = some (e 0) := hcell 0 hR
  obtain ⟨ao0, cap0, hs0, hm0, hq0⟩ := he 0 hR
  rw [hs0, hN 0 hR] at hc0
  have HE : Hid (∀ i, i < R → Rd w h1 (e i) N (f i)) := fun i hi => by have := he i hi; rw [hN i hi] at this; exact this
  have HC : Hid (∀ i, i < R → w.cell? ⟨b, off + i, none⟩ = some (e i)) := hcell
  have HC2 : Hid (∀ i, i < R → w.cell? ⟨b2, off2 + i, none⟩ = some (.int .u8 (c i))) := hcell2
  clear hc hc2 hcell hcell2 he hs0 hq0 hm0 hN
  go_enter Try.func51, Try.ntmps51
  go_wp2_with (at_make; refine wp_makeB _ rfl _ _ rfl _ _ N rfl rfl rfl rfl (by omega) ?_; intro w1 hown1 hb1 hz1)
  go_loopw [5, 6] (fun v i wr => ∃ k : Nat, k ≤ R ∧ i = .int .i64 k ∧ Own wr w.heap.size wr.heap.size v N (mixN f c k) ∧ Below w.heap.size w wr) (fun _ i _ => R - (intOf i).toNat)
  case atStart => exact ⟨0, Nat.zero_le _, rfl, hown1, hb1⟩
  case round =>
    clear hown1 hb1 hz1 hc0
    obtain ⟨k, hk, rfl, hown, hb⟩ := hrel
    by_cases hlt : k < R
    · have hck : wr.cell? ⟨b, off + k, none⟩ = some (e k) := (hb.cell (p := ⟨b, off + k, none⟩) (by show b < w.heap.size; omega)).trans (HC.out k hlt)
      have hck2 : wr.cell? ⟨b2, off2 + k, none⟩ = some (.int .u8 (c k)) := (hb.cell (p := ⟨b2, off2 + k, none⟩) (by show b2 < w.heap.size; omega)).trans (HC2.out k hlt)
      have hrk : Rd wr h1 (e k) N (f k) := (HE.out k hlt).below hb hh1
      have C1 := l1Scale_any (e k) N (f k) (fun j => mulN (c k) (f k j)) (c k) h1 (wr.drewN 1) hrk (Nat.le_trans hh1 hb.size) (kf k) (kc k) (fun _ _ => rfl) (by omega)
      have C2 : ∀ (w2 : World) (v2 : Value), Own w2 wr.heap.size w2.heap.size v2 N (fun j => mulN (c k) (f k j)) → Below wr.heap.size wr w2 →
          Calls Try.prog 60 #[u5, v2] w2 fun e w' => ∃ v', e = .returned v' ∧ Own w' w2.heap.size w'.heap.size v' N (mixN f c (k + 1)) ∧ Below w2.heap.size w2 w' := fun w2 v2 ho hb2 =>
        l1Add_any u5 v2 N (mixN f c k) (fun j => mulN (c k) (f k j)) (mixN f c (k + 1)) _ _ w2 (hown.below hb2 (Nat.le_refl _)).rd ho.rd hb2.size (Nat.le_refl _) (mixN_lt f c kc k) (fun j => mulN_lt (kc k)) (fun _ _ => rfl) (by omega)
      obtain ⟨x, hx⟩ : ∃ x, x = e k := ⟨_, rfl⟩
      rw [← hx] at hck C1
      have HOWN : Hid (Own wr w.heap.size wr.heap.size u5 N (mixN f c k)) := hown
      clear hx hrk hown HE HC HC2
      go_wp2
      go_region_with (first | (go_at_call 61; refine C1.mono ?_; rintro ee w2 ⟨v2, rfl, ho2, hb2⟩) | (go_at_call 60; refine (C2 _ _ ho2 (undrewN hb2)).mono ?_; rintro ee w3 ⟨v3, rfl, ho3, hb3⟩))
      all_goals
        have B3 : Below w.heap.size w w3 := bthen hb (bthen (w := wr) (undrewN hb2) hb3)
        have O3 : Own w3 w.heap.size w3.heap.size v3 N (mixN f c (k + 1)) := ho3.weaken (by have := hb.size; have := (undrewN hb2).size; omega) (Nat.le_refl _)
        clear hb2 hb3 ho2 ho3 hb HOWN C1 C2
        go_wp2
        go_roundw
        case rel => exact ⟨k + 1, by omega, by go_num, O3, B3⟩
        case measure => simp [intOf]; omega
    · have hkn : k = R := by omega
      subst hkn
      go_wp2
      go_ret
      exact ⟨_, rfl, hown, hb⟩
end Go.Proofs.Ytdnankopblkblaj
