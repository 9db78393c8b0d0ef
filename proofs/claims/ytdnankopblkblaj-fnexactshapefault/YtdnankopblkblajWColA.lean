/- Walks of the specification's l3Shape, l3Even, l3Encode and EncodeColumn. -/
import Derived.Test.YtdnankopblkblajColDefs
import Derived.Test.YtdnankopblkblajWRowA
import Derived.Test.YtdnankopblkblajWSz
import Derived.Test.YtdnankopblkblajWAppend
namespace Go.Proofs.Ytdnankopblkblaj
open Go.RowKit F256
set_option linter.unusedVariables false
set_option linter.unusedSimpArgs false

theorem l3Shape_any (d s : Int) (w : World) :
    Calls Try.prog 39 #[.int .i64 d, .int .i64 s] w (BoolP (Shp3 d s) w) := by
  by_cases h1 : 1 ≤ d ∧ d ≤ 4
  · by_cases h2 : 0 ≤ s ∧ s ≤ 2
    · go_enter Try.func39, Try.ntmps39
      go_wp2_with fail
      refine (l1In_yes d 1 4 h1.1 h1.2 _).mono ?_
      rintro e w1 ⟨rfl, rfl⟩
      go_wp2_with fail
      refine (l1In_yes s 0 2 h2.1 h2.2 _).mono ?_
      rintro e w1 ⟨rfl, rfl⟩
      go_wp2
      go_ret
      exact boolYes rfl ⟨h1.1, h1.2, h2.1, h2.2⟩ (Below.refl _ _)
    · go_enter Try.func39, Try.ntmps39
      go_wp2_with fail
      refine (l1In_yes d 1 4 h1.1 h1.2 _).mono ?_
      rintro e w1 ⟨rfl, rfl⟩
      go_wp2_with fail
      refine (l1In_no s 0 2 (by omega) _).mono ?_
      rintro e w1 ⟨rfl, rfl⟩
      go_wp2
      go_ret
      exact boolNo rfl (fun h => h2 ⟨h.2.2.1, h.2.2.2⟩) (Below.refl _ _)
  · go_enter Try.func39, Try.ntmps39
    go_wp2_with fail
    refine (l1In_no d 1 4 (by omega) _).mono ?_
    rintro e w1 ⟨rfl, rfl⟩
    go_wp2
    go_ret
    exact boolNo rfl (fun h => h1 ⟨h.1, h.2.1⟩) (Below.refl _ _)


set_option maxHeartbeats 1000000 in
theorem l3Even_any (v : Value) (R : Nat) (n : Nat → Nat) (f : Nat → Nat → Nat) (hi : Nat) (w : World) (r : RdM w hi v R n f) :
    Calls Try.prog 50 #[v] w (BoolP (EvenP R n) w) := by
  obtain ⟨ao, cap, e, rfl, hm, hc, he⟩ := r
  unfold maxLen at hm
  go_enter Try.func50, Try.ntmps50
  go_wp2
  go_loopw [3] (fun i wr => ∃ k : Nat, k ≤ R ∧ i = .int .i64 k ∧ (∀ i, i < k → n i = n 0) ∧ ∃ m, wr = w.drewN m) (fun i _ => R - (intOf i).toNat)
  case atStart => exact ⟨0, Nat.zero_le _, rfl, fun i hi => by omega, 0, rfl⟩
  case round =>
    obtain ⟨k, hk, rfl, hall, m, rfl⟩ := hrel
    have HALL : Hid (∀ i, i < k → n i = n 0) := hall
    by_cases hlt : k < R
    · obtain ⟨b, off, rfl, hblt, hcell⟩ := hc (by omega)
      have hck : w.cell? ⟨b, off + k, none⟩ = some (e k) := hcell k hlt
      have hc0 : w.cell? ⟨b, off, none⟩ = some (e 0) := hcell 0 (by omega)
      obtain ⟨aok, capk, hsk, hmk, hqk⟩ := he k hlt
      obtain ⟨ao0, cap0, hs0, hm0, hq0⟩ := he 0 (by omega)
      unfold maxLen at hmk hm0
      rw [hsk] at hck
      rw [hs0] at hc0
      clear hc hcell he hsk hs0 hqk hq0 hall
      obtain ⟨nk, hnk⟩ : ∃ x, x = n k := ⟨_, rfl⟩
      obtain ⟨n0, hn0⟩ : ∃ x, x = n 0 := ⟨_, rfl⟩
      have HK : Hid (nk = n k) := hnk
      have H0 : Hid (n0 = n 0) := hn0
      rw [← hnk] at hck hmk
      rw [← hn0] at hc0 hm0
      clear hnk hn0
      by_cases heq : nk = n0
      · subst heq
        go_wp2
        go_quiet (fail)
        go_wp2
        go_roundw
        case rel => exact ⟨k + 1, by omega, by go_num, fun i hi => by
                      by_cases c : i = k
                      · rw [c, ← HK.out, ← H0.out]
                      · exact HALL.out i (by omega), _, rfl⟩
        case measure => simp [intOf]; omega
      · have tn : ((nk : Int) != (n0 : Int)) = true := by simp; omega
        go_wp2
        go_quiet (fail)
        go_wp2
        go_ret
        exact boolNo rfl (fun h => absurd (h k hlt) (by rw [← HK.out, ← H0.out]; exact heq)) (below_drewN (below_drewN (Below.refl _ _) _) _)
    · have hkn : k = R := by omega
      subst hkn
      go_wp2
      go_ret
      exact boolYes rfl HALL.out (below_drewN (Below.refl _ _) _)

end Go.Proofs.Ytdnankopblkblaj
