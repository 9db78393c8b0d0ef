/- The laws' helpers for a result with slices of bytes in it. -/
import Derived.Test.YtdnankopblkblakWBytess
import Derived.Test.YtdnankopblkblakWOwnB
namespace Go.Proofs.Ytdnankopblkblak
open Go.RowKit F256
set_option linter.unusedVariables false
set_option linter.unusedSimpArgs false

/-- the marks of all rows, one behind the other -/
def marksM (j : Nat) (n : Nat → Nat) : Mat := fun i => marks (j + sumN n i)

set_option maxHeartbeats 2000000 in
theorem markByteSS_full (v : Value) (R : Nat) (n : Nat → Nat) (f : Nat → Nat → Nat) (lo hi : Nat) (j : Nat) (hj : j ≤ 100000000) (hR : R ≤ 100000000) (hs : sumN n R ≤ 100000000) (w : World) (h : OwnM w lo hi v R n f) (hhi : hi ≤ w.heap.size) :
    Calls Try.prog 28 #[v, .int .i64 j] w fun e w' => e = .returned (.int .i64 ((j + sumN n R : Nat) : Int)) ∧ OwnM w' lo hi v R n (marksM j n) ∧ Chg lo hi w w' := by
  obtain ⟨g, cap, e, h⟩ := h
  have hlh : lo ≤ hi := Nat.le_trans h.low (Nat.le_of_lt h.high)
  obtain rfl := h.val
  go_enter Try.func28, Try.ntmps28
  go_wp2
  go_loopw [1, 5] (fun x i wr => ∃ k : Nat, k ≤ R ∧ i = .int .i64 k ∧ x = .int .i64 ((j + sumN n k : Nat) : Int) ∧ wr.heap[g]? = w.heap[g]? ∧ (∀ i, i < R → Own wr lo hi (e i) (n i) (if i < k then marksM j n i else f i)) ∧ Chg lo hi w wr) (fun _ i _ => R - (intOf i).toNat)
  case atStart => exact ⟨0, Nat.zero_le _, rfl, rfl, rfl, fun i hi => by simpa using h.each i hi, Chg.refl' _ _ _⟩
  case round =>
    obtain ⟨k, hk, rfl, rfl, hgr, hea, hch⟩ := hrel
    have hsk := sumN_mono n hk
    by_cases hlt : k < R
    · have hck : wr.cell? ⟨g, k, none⟩ = some (e k) := (World.cell?_of_block (w := w) hgr).trans (h.cell k hlt)
      have hok : Own wr lo hi (e k) (n k) (f k) := by have := hea k hlt; rw [if_neg (Nat.lt_irrefl k)] at this; exact this
      have hts := tight_sub hok hlh
      have hnk : n k ≤ 100000000 := by have := sumN_mono n (show k + 1 ≤ R from hlt); simp only [sumN] at this; omega
      have C := markByteS_any (e k) (n k) (f k) (tlo (e k) lo) (thi (e k) lo) (j + sumN n k) (by omega) (by omega) wr hok.tight
      obtain ⟨ao2, cap2, hsl⟩ := hok.slice
      have A1 : ∀ q, (e k).ownBlock = some q → g ≠ q := fun q hq hgq => h.apart.1 k hlt (by rw [hq, hgq])
      have A2 : ∀ i, i < R → i ≠ k → ∀ q, (e k).ownBlock = some q → (e i).ownBlock ≠ some q := fun i hi hki q hq => h.apart.2 k i hlt hi (fun z => hki z.symm) q hq
      have HOK : Hid (Own wr lo hi (e k) (n k) (f k)) := hok
      have HEA : Hid (∀ i, i < R → Own wr lo hi (e i) (n i) (if i < k then marksM j n i else f i)) := hea
      have HA1 : Hid (∀ q, (e k).ownBlock = some q → g ≠ q) := A1
      have HA2 : Hid (∀ i, i < R → i ≠ k → ∀ q, (e k).ownBlock = some q → (e i).ownBlock ≠ some q) := A2
      have HGR : Hid (wr.heap[g]? = w.heap[g]?) := hgr
      clear hea A1 A2 hgr hok
      rw [hsl] at hck
      go_wp2_with fail
      rw [← hsl]
      refine C.mono ?_
      rintro ee w2 ⟨rfl, ho2, hout⟩
      have N1 : w2.heap[g]? = w.heap[g]? := (hout.block g (not_in_tight HA1.out)).trans HGR.out
      have N2 : ∀ i, i < R → Own w2 lo hi (e i) (n i) (if i < k + 1 then marksM j n i else f i) := fun i hi => by
        by_cases c : i = k
        · subst c
          rw [if_pos (Nat.lt_succ_self i)]
          exact HOK.out.untight ho2
        · have hq := (HEA.out i hi).kept (w' := w2) fun q hq => hout.block q (not_in_tight fun q' hq' hh => HA2.out i hi c q' hq' (by rw [← hh]; exact hq))
          by_cases c2 : i < k
          · rw [if_pos c2] at hq
            rw [if_pos (by omega)]
            exact hq
          · rw [if_neg c2] at hq
            rw [if_neg (by omega)]
            exact hq
      have N3 : Chg lo hi w w2 := hch.trans (hout.chg.widen hts.1 hts.2)
      clear ho2 hout hch HEA HA1 HA2 HGR HOK C
      rw [hsl]
      clear hsl
      go_wp2
      go_roundw
      case rel => exact ⟨k + 1, by omega, by go_num, val_eq (by simp only [sumN]; omega), N1, N2, N3⟩
      case measure => simp [intOf]; omega
    · have hkn : k = R := by omega
      subst hkn
      go_wp2
      go_ret
      exact ⟨rfl, ⟨g, cap, e, rfl, h.low, h.high, row_kept h.row (fun q hq => by (have e1 : g = q := by simpa [Value.ownBlock] using hq); subst e1; exact hgr), fun i hi => by have := hea i hi; rw [if_pos hi] at this; exact this, h.apart⟩, hch⟩

set_option maxHeartbeats 2000000 in
theorem heldByteSS_any (v : Value) (R : Nat) (n : Nat → Nat) (hi : Nat) (j : Nat) (hj : j ≤ 100000000) (hR : R ≤ 100000000) (hs : sumN n R ≤ 100000000) (w : World) (h : RdM w hi v R n (marksM j n)) :
    Calls Try.prog 42 #[v, .int .i64 j] w fun e w' => e = .returned (.int .i64 ((j + sumN n R : Nat) : Int)) ∧ w' = w := by
  obtain ⟨ao, cap, e, rfl, hm, hc, he⟩ := h
  have HE : Hid (∀ i, i < R → Rd w hi (e i) (n i) (marksM j n i)) := he
  clear he
  go_enter Try.func42, Try.ntmps42
  go_wp2
  go_loop [1, 5] (fun x i => ∃ k : Nat, k ≤ R ∧ i = .int .i64 k ∧ x = .int .i64 ((j + sumN n k : Nat) : Int)) (fun _ i => R - (intOf i).toNat)
  case atStart => exact ⟨0, Nat.zero_le _, rfl, rfl⟩
  case round =>
    obtain ⟨k, hk, rfl, rfl⟩ := hrel
    have hsk := sumN_mono n hk
    by_cases hlt : k < R
    · obtain ⟨b, off, rfl, hblt, hcell⟩ := hc (by omega)
      have hck : w.cell? ⟨b, off + k, none⟩ = some (e k) := hcell k hlt
      have hnk : n k ≤ 100000000 := by have := sumN_mono n (show k + 1 ≤ R from hlt); simp only [sumN] at this; omega
      have C := heldByteS_any (e k) (n k) hi (j + sumN n k) (by omega) (by omega) w (HE.out k hlt)
      obtain ⟨aok, capk, hsl, _, _⟩ := HE.out k hlt
      rw [hsl] at hck C
      have e5 : ((j + sumN n k + n k : Nat) : Int) = ((j + sumN n (k + 1) : Nat) : Int) := by simp only [sumN]; omega
      rw [e5] at C
      obtain ⟨nk, hnk2⟩ : ∃ x, x = n k := ⟨_, rfl⟩
      rw [← hnk2] at hck C
      obtain ⟨J, hJ⟩ : ∃ x, x = j + sumN n (k + 1) := ⟨_, rfl⟩
      have HJ : Hid (J = j + sumN n (k + 1)) := hJ
      rw [← hJ] at C
      clear hc hcell hsl hnk2 e5 hJ
      have hJ0 : decide ((J : Int) < 0) = false := by simp
      go_wp2_with fail
      refine C.mono ?_
      rintro ee w2 ⟨rfl, rfl⟩
      clear C
      go_wp2
      go_round
      case rel => exact ⟨k + 1, by omega, by go_num, by rw [← HJ.out]⟩
      case measure => simp [intOf]; omega
    · have hkn : k = R := by omega
      subst hkn
      go_wp2
      go_ret
      exact ⟨rfl, rfl⟩

end Go.Proofs.Ytdnankopblkblak
