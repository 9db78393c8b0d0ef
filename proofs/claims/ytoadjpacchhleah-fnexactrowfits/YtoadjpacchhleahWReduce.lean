/- Walks of the program's elimination: firstLeading, clearColumn. -/
import Derived.Test.YtoadjpacchhleahOwnM2
import Derived.Test.YtoadjpacchhleahWScale
namespace Go.Proofs.Ytoadjpacchhleah
open Go.RowKit F256
set_option linter.unusedVariables false
set_option linter.unusedSimpArgs false

set_option maxHeartbeats 1000000 in
theorem firstLeading_any (v : Value) (R C : Nat) (M : Mat) (hi : Nat) (r c : Nat) (hr : r ≤ R) (hc : c < C) (hR : R ≤ 1000000) (hC : C ≤ 1000000) (w : World) (h : RdM w hi v R (fun _ => C) M) :
    Calls Try.prog 65 #[v, .int .i64 r, .int .i64 c] w fun e w' => e = .returned (.int .i64 (lead M c R r)) ∧ w' = w := by
  obtain ⟨ao, cap, e, rfl, hm, hcc, he⟩ := h
  go_enter Try.func65, Try.ntmps65
  go_wp2
  go_loop [7] (fun i => ∃ k : Nat, r ≤ k ∧ k ≤ R ∧ i = .int .i64 k ∧ ∀ j, r ≤ j → j < k → M j c = 0) (fun i => R - (intOf i).toNat)
  case atStart => exact ⟨r, Nat.le_refl _, hr, rfl, fun j h1 h2 => by omega⟩
  case round =>
    obtain ⟨k, hk1, hk, rfl, hz⟩ := hrel
    by_cases hlt : k < R
    · obtain ⟨b, off, rfl, hblt, hcell⟩ := hcc (by omega)
      obtain ⟨aok, capk, hsk, hmk, hqk⟩ := he k hlt
      obtain ⟨b2, off2, rfl, hlt2, hcell2⟩ := hqk (by omega)
      have hck : w.cell? ⟨b, off + k, none⟩ = some (.slice (some ⟨b2, off2, none⟩) C capk) := by rw [← hsk]; exact hcell k hlt
      have hcc2 : w.cell? ⟨b2, off2 + c, none⟩ = some (.int .u8 (M k c)) := hcell2 c hc
      have HZ : Hid (∀ j, r ≤ j → j < k → M j c = 0) := hz
      obtain ⟨x, hx⟩ : ∃ x, x = M k c := ⟨_, rfl⟩
      have HX : Hid (x = M k c) := hx
      rw [← hx] at hcc2
      clear hcc he hcell hsk hcell2 hz hx
      by_cases h0 : x = 0
      · subst h0
        go_wp2
        go_round
        case rel => exact ⟨k + 1, by omega, by omega, by go_num, fun j h1 h2 => by
                      by_cases ej : j = k
                      · rw [ej, ← HX.out]
                      · exact HZ.out j h1 (by omega)⟩
        case measure => simp [intOf]; omega
      · have ht : ((x : Int) != 0) = true := by simp; omega
        go_wp2
        go_ret
        exact ⟨ret_eq (by rw [lead_eq (a := k) ⟨hk1, by omega, HZ.out, fun _ => by rw [← HX.out]; exact h0⟩]), rfl⟩
    · have hkn : k = R := by omega
      subst hkn
      have HZ : Hid (∀ j, r ≤ j → j < k → M j c = 0) := hz
      clear hz
      go_wp2
      go_ret
      exact ⟨ret_eq (by rw [lead_eq (a := k) ⟨hk1, Nat.le_refl _, HZ.out, fun h => by omega⟩]), rfl⟩

/-- sums over rows that lie apart -/
theorem addScaled_two (v1 v2 : Value) (n : Nat) (f l g : Nat → Nat) (c : Nat) (lo hi : Nat) (w : World) (hs : Own w lo hi v1 n f) (hr : Own w lo hi v2 n l) (hne : ∀ k, v1.ownBlock = some k → v2.ownBlock ≠ some k) (hlh : lo ≤ hi) (hhi : hi ≤ w.heap.size)
    (kf : ∀ i, f i < 256) (kl : ∀ i, l i < 256) (hc : c < 256) (hg : ∀ i, i < n → g i = f i ^^^ mulN c (l i)) (hn : n ≤ 1000000000) :
    Calls Try.prog 38 #[v1, v2, .int .u8 c] w fun e w' => e = .returned (.tuple #[]) ∧ Own w' lo hi v1 n g ∧ Chg (tlo v1 lo) (thi v1 lo) w w' := by
  by_cases h0 : n = 0
  · subst h0
    refine (addScaled_nil v1 v2 f l c hi hi w hs.rd hr.rd hc).mono fun e w' ⟨he, hb⟩ => ⟨he, (hs.below hb hhi).congr (fun i hi => by omega), Below.chg hb _ _⟩
  · obtain ⟨g0, cap0, rfl, h1, h2, h3, h4⟩ := hs.form h0
    obtain ⟨b, cap, rfl, h1', h2', h3', h4'⟩ := hr.form h0
    have hbg : b ≠ g0 := fun hh => hne g0 rfl (by simp [Value.ownBlock, hh])
    have ht : tlo (.slice (some ⟨g0, 0, none⟩) n cap0) lo = g0 := rfl
    have ht2 : thi (.slice (some ⟨g0, 0, none⟩) n cap0) lo = g0 + 1 := rfl
    have hst := hs.tight
    rw [ht, ht2] at hst ⊢
    have hcell : ∀ i, i < n → w.cell? ⟨b, 0 + i, none⟩ = some (.int .u8 (l i)) := fun i hi => by rw [Nat.zero_add, hr.1.cellAt i (by omega), cellsOf_get _ _ _ hi]
    refine (addScaled_core g0 cap0 n f l g c g0 (g0 + 1) b 0 cap w hst (by omega) h3' (by omega) hcell (Nat.le_refl _) (Nat.lt_succ_self _) kf kl hc hg hn).mono fun e w' ⟨he, ho, hch⟩ => ⟨he, ?_, hch⟩
    exact hs.untight ho

set_option maxHeartbeats 2000000 in
theorem clearColumn_any (v : Value) (R C : Nat) (M : Mat) (lo hi : Nat) (r c : Nat) (g cap : Nat) (e : Nat → Value) (hr : r < R) (hc : c < C) (hR : R ≤ 1000000) (hC : C ≤ 1000000) (kM : Byt M) (w : World) (h : OwnE w lo hi v R (fun _ => C) M g cap e) (hhi : hi ≤ w.heap.size) :
    Calls Try.prog 67 #[v, .int .i64 r, .int .i64 c] w fun ee w' => ee = .returned (.tuple #[]) ∧ OwnE w' lo hi v R (fun _ => C) (clearM M r c R) g cap e ∧ Chg lo hi w w' := by
  obtain rfl := h.val
  have hlh : lo ≤ hi := Nat.le_trans h.low (Nat.le_of_lt h.high)
  go_enter Try.func67, Try.ntmps67
  go_wp2
  go_loopw [6, 9] (fun _ i wr => ∃ k : Nat, k ≤ R ∧ i = .int .i64 k ∧ OwnE wr lo hi (.slice (some ⟨g, 0, none⟩) R cap) R (fun _ => C) (clearM M r c k) g cap e ∧ Chg lo hi w wr) (fun _ i _ => R - (intOf i).toNat)
  case atStart => exact ⟨0, Nat.zero_le _, rfl, by rw [clearM_zero]; exact h, Chg.refl' _ _ _⟩
  case round =>
    clear h
    obtain ⟨k, hk, rfl, hE, hch⟩ := hrel
    by_cases hlt : k < R
    · by_cases hkr : k = r
      · subst hkr
        have E : Hid (OwnE wr lo hi (.slice (some ⟨g, 0, none⟩) R cap) R (fun _ => C) (clearM M k c (k + 1)) g cap e) := by rw [clearM_skip]; exact hE
        clear hE
        go_wp2
        go_roundw
        case rel => exact ⟨k + 1, by omega, by go_num, E.out, hch⟩
        case measure => simp [intOf]; omega
      · have ht : ((k : Int) != (r : Int)) = true := by simp; omega
        have kB := clearM_byt kM r c k
        have ck := hE.cell k hlt
        have cr := hE.cell r hr
        have ok := hE.each k hlt
        have or := hE.each r hr
        obtain ⟨gk, capk, hek, _, _, hgk, _⟩ := ok.form (by omega)
        have hcc : wr.cell? ⟨gk, c, none⟩ = some (.int .u8 (clearM M r c k k c)) := by
          have := ok.1
          rw [hek] at this
          rw [this.cellAt c (by omega), cellsOf_get _ _ _ hc]
        have hcy := kB k c
        obtain ⟨y, hy⟩ : ∃ y, y = clearM M r c k k c := ⟨_, rfl⟩
        have hsz := hch.size
        have A := addScaled_two (e k) (e r) C (clearM M r c k k) (clearM M r c k r) (clearM M r c (k + 1) k) y lo hi (wr.drewN 1) ok or (hE.apart.2 k r hlt hr hkr) hlh (by show hi ≤ wr.heap.size; omega) (kB k) (kB r) (by rw [hy]; exact hcy)
          (fun j hj => by rw [clearM_next hkr, hy]; simp) (by omega)
        rw [← hy] at hcc hcy
        obtain ⟨ek, hek'⟩ : ∃ x, x = e k := ⟨_, rfl⟩
        obtain ⟨er, her'⟩ : ∃ x, x = e r := ⟨_, rfl⟩
        rw [← hek'] at ck A hek
        rw [← her'] at cr A
        have HEK : Hid (ek = e k) := hek'
        subst hek
        have HE : Hid (OwnE wr lo hi (.slice (some ⟨g, 0, none⟩) R cap) R (fun _ => C) (clearM M r c k) g cap e) := hE
        have HTS : Hid (lo ≤ tlo (e k) lo ∧ thi (e k) lo ≤ hi) := tight_sub ok hlh
        clear hy hek' her' ok or hE kB
        go_wp2
        go_region_with (go_at_call 38; refine A.mono ?_; rintro ee w3 ⟨rfl, ho3, hc3⟩)
        all_goals
          have c3 : Chg (tlo (e k) lo) (thi (e k) lo) wr w3 := by rw [← HEK.out]; exact ⟨hc3.os, hc3.tape, hc3.output, hc3.size, hc3.block⟩
          have E3 : OwnE w3 lo hi (.slice (some ⟨g, 0, none⟩) R cap) R (fun _ => C) (clearM M r c (k + 1)) g cap e := HE.out.upd k hlt c3 (by rw [← HEK.out]; exact ho3) (fun j hj hne => by rw [clearM_next hkr]; simp [hne])
          have C3 : Chg lo hi w w3 := hch.trans (c3.widen HTS.out.1 HTS.out.2)
          clear c3 hc3 ho3 HE A HEK HTS
          go_wp2
          go_roundw
          case rel => exact ⟨k + 1, by omega, by go_num, E3, C3⟩
          case measure => simp [intOf]; omega
    · have hkn : k = R := by omega
      subst hkn
      go_wp2
      go_end0
      exact ⟨rfl, hE, hch⟩
end Go.Proofs.Ytoadjpacchhleah
