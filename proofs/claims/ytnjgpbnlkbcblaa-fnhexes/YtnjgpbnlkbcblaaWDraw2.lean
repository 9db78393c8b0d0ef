/- Walks of the draws of bytes, of rows and of a system. -/
import Derived.Test.YtnjgpbnlkbcblaaWDraw
namespace Go.Proofs.Ytnjgpbnlkbcblaa
open Go.RowKit F256
set_option linter.unusedVariables false

set_option maxHeartbeats 2000000 in
theorem l1Chance_any (bs t : Nat) (v : Value) (n : Nat) (f : Nat → Nat) (N : Nat) (hN : 1 ≤ N) (hN2 : N ≤ 100000) (ht : t ≤ 1000000) (w : World) (h : Src w bs t v n f) :
    Calls Try.prog 19 #[.pointer (some ⟨bs, 0, none⟩), .int .i64 N] w fun e w' => ∃ b : Bool, e = .returned (.bool b) ∧ Src w' bs (t + 1) v n f ∧ Chg bs (bs + 1) w w' := by
  go_enter Try.func19, Try.ntmps19
  go_wp2_with fail
  refine (l1Next_any bs t v n f N hN hN2 ht _ h).mono ?_
  rintro e w1 ⟨r, hr, rfl, h1, c1⟩
  go_wp2
  go_ret
  exact ⟨_, rfl, h1, c1⟩

/-- what changes only what came behind -/
theorem Chg.then {lo hi : Nat} {w w1 w2 : World} (h : Chg lo hi w w1) (b : Below w.heap.size w1 w2) : Chg lo hi w w2 :=
  ⟨b.os.trans h.os, b.tape.trans h.tape, b.output.trans h.output, Nat.le_trans h.size b.size, fun q hq ho => (b.block q hq).trans (h.block q hq ho)⟩

set_option maxHeartbeats 2000000 in
theorem l1Some_any (bs t : Nat) (v : Value) (n : Nat) (f : Nat → Nat) (N : Nat) (hN : N ≤ 1000) (ht : t ≤ 800000) (w : World) (h : Src w bs t v n f) :
    Calls Try.prog 12 #[.pointer (some ⟨bs, 0, none⟩), .int .i64 N] w fun e w' => ∃ v' g, e = .returned v' ∧ Own w' w.heap.size w'.heap.size v' N g ∧ (∀ i, g i < 256) ∧ Src w' bs (t + 3 * N) v n f ∧ Chg bs (bs + 1) w w' := by
  have hbs := h.1.lt
  have H0 : Hid (Src w bs t v n f) := h
  clear h
  go_enter Try.func12, Try.ntmps12
  go_wp2
  go_loopw [1, 5] (fun i u wr => ∃ j k : Nat, j + k = N ∧ i = .int .i64 j ∧ ∃ g, Own wr w.heap.size wr.heap.size u k g ∧ (∀ i, g i < 256) ∧ Src wr bs (t + 3 * k) v n f ∧ Chg bs (bs + 1) w wr) (fun i _ _ => (intOf i).toNat)
  case atStart =>
    have b0 : Below w.heap.size w (w.alloc (.cells #[] 5)) := (Below.refl _ _).alloc (Nat.le_refl _) _
    exact ⟨N, 0, rfl, rfl, fun _ => 0, own_lit0 w _, fun _ => by show (0 : Nat) < 256; omega, H0.out.chgTrans b0, Below.chg b0 _ _⟩
  case round =>
    obtain ⟨j, k, hjk, rfl, g, hown, hg, hsrc, hchg⟩ := hrel
    by_cases hlt : 0 < j
    · have C := l1Byte_any bs (t + 3 * k) v n f (by omega) wr hsrc
      have hsz := hchg.size
      have HO : Hid (Own wr w.heap.size wr.heap.size u5 k g) := hown
      have HG : Hid (∀ i, g i < 256) := hg
      clear hown hg hsrc
      go_wp2_with (first | (go_at_call 22; refine C.mono ?_; rintro e wx ⟨y, hy, rfl, hsx, hcx⟩; have HOX : Hid (Own wx w.heap.size wr.heap.size u5 k (fun i => if i = k then y else g i)) := (HO.out.chg hcx (.inr (by omega))).congr (fun i hi => by simp [show ¬ i = k by omega])) | (at_builtin; refine wp_appendB rfl (.tmp 11) (.tmp 14) rfl w.heap.size wr.heap.size u5 k (fun i => if i = k then y else g i) ?_ ?_ wx.heap.size 1 ?_ ?_ ?_ ?_ ?_; (simp [Act.eval]); exact HOX.out.alloc _; (simp [Act.eval]); simp; omega; (simp; have := hcx.size; omega); intro v' w1 hown1 hb1))
      have bx : Below wx.heap.size wx (wx.alloc (.cells #[.int .u8 y] 5)) := (Below.refl _ _).alloc (Nat.le_refl _) _
      have hsw := hcx.size
      have b2 : Below w.heap.size wx w1 := (bx.mono (by omega)).trans hb1
      have R1 : Src w1 bs (t + 3 * k + 3) v n f := ⟨hsx.1.below b2 hbs, hsx.2.1.below b2 (by omega), hsx.2.2⟩
      have R2 : Chg bs (bs + 1) w w1 := Chg.then (hchg.trans hcx) b2
      clear hsx hcx hb1 hchg
      go_wp2
      go_roundw
      case rel => exact ⟨j - 1, k + 1, by omega, by go_num, _, hown1, fun i => by
                    by_cases e : i = k
                    · simp [e, hy]
                    · simp [e]; exact HG.out i, by rw [show t + 3 * (k + 1) = t + 3 * k + 3 by omega]; exact R1, R2⟩
      case measure => simp [intOf]; omega
    · obtain rfl : j = 0 := by omega
      obtain rfl : k = N := by omega
      go_wp2
      go_ret
      exact ⟨_, g, rfl, hown, hg, hsrc, hchg⟩
end Go.Proofs.Ytnjgpbnlkbcblaa
