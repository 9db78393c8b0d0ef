/- Walks of the specification's l3Shape, l3Even, l3Encode and EncodeColumn. -/
import Derived.Test.YtoadjpacchhleaiColDefs
import Derived.Test.YtoadjpacchhleaiWRowA
import Derived.Test.YtoadjpacchhleaiWSz
import Derived.Test.YtoadjpacchhleaiWAppend
namespace Go.Proofs.Ytoadjpacchhleai
open Go.RowKit F256
set_option linter.unusedVariables false
set_option linter.unusedSimpArgs false

theorem l3Shape_any (d s : Int) (w : World) :
    Calls Try.prog 63 #[.int .i64 d, .int .i64 s] w (BoolP (Shp3 d s) w) := by
  by_cases h1 : 1 ≤ d ∧ d ≤ 4
  · by_cases h2 : 0 ≤ s ∧ s ≤ 2
    · go_enter Try.func63, Try.ntmps63
      go_wp2_with fail
      refine (l1In_yes d 1 4 h1.1 h1.2 _).mono ?_
      rintro e w1 ⟨rfl, rfl⟩
      go_wp2_with fail
      refine (l1In_yes s 0 2 h2.1 h2.2 _).mono ?_
      rintro e w1 ⟨rfl, rfl⟩
      go_wp2
      go_ret
      exact boolYes rfl ⟨h1.1, h1.2, h2.1, h2.2⟩ (Below.refl _ _)
    · go_enter Try.func63, Try.ntmps63
      go_wp2_with fail
      refine (l1In_yes d 1 4 h1.1 h1.2 _).mono ?_
      rintro e w1 ⟨rfl, rfl⟩
      go_wp2_with fail
      refine (l1In_no s 0 2 (by omega) _).mono ?_
      rintro e w1 ⟨rfl, rfl⟩
      go_wp2
      go_ret
      exact boolNo rfl (fun h => h2 ⟨h.2.2.1, h.2.2.2⟩) (Below.refl _ _)
  · go_enter Try.func63, Try.ntmps63
    go_wp2_with fail
    refine (l1In_no d 1 4 (by omega) _).mono ?_
    rintro e w1 ⟨rfl, rfl⟩
    go_wp2
    go_ret
    exact boolNo rfl (fun h => h1 ⟨h.1, h.2.1⟩) (Below.refl _ _)


set_option maxHeartbeats 1000000 in
theorem l3Even_any (v : Value) (R : Nat) (n : Nat → Nat) (f : Nat → Nat → Nat) (hi : Nat) (w : World) (r : RdM w hi v R n f) :
    Calls Try.prog 64 #[v] w (BoolP (EvenP R n) w) := by
  obtain ⟨ao, cap, e, rfl, hm, hc, he⟩ := r
  unfold maxLen at hm
  go_enter Try.func64, Try.ntmps64
  go_wp2
  go_loopw [3] (fun i wr => ∃ k : Nat, k ≤ R ∧ i = .int .i64 k ∧ (∀ i, i < k → n i = n 0) ∧ ∃ m, wr = w.drewN m) (fun i _ => R - (intOf i).toNat)
  case atStart => exact ⟨0, Nat.zero_le _, rfl, fun i hi => by omega, 0, rfl⟩
  case round =>
    obtain ⟨k, hk, rfl, hall, m, rfl⟩ := hrel
    have HALL : Hid (∀ i, i < k → n i = n 0) := hall
    by_cases hlt : k < R
    · obtain ⟨b, off, rfl, hblt, hcell⟩ := hc (by omega)
      have hck : w.cell? ⟨b, off + k, none⟩ = some (e k) := hcell k hlt
      have hc0 : w.cell? ⟨b, off, none⟩ = some (e 0) := hcell 0 (by omega)
      obtain ⟨aok, capk, hsk, hmk, hqk⟩ := he k hlt
      obtain ⟨ao0, cap0, hs0, hm0, hq0⟩ := he 0 (by omega)
      unfold maxLen at hmk hm0
      rw [hsk] at hck
      rw [hs0] at hc0
      clear hc hcell he hsk hs0 hqk hq0 hall
      obtain ⟨nk, hnk⟩ : ∃ x, x = n k := ⟨_, rfl⟩
      obtain ⟨n0, hn0⟩ : ∃ x, x = n 0 := ⟨_, rfl⟩
      have HK : Hid (nk = n k) := hnk
      have H0 : Hid (n0 = n 0) := hn0
      rw [← hnk] at hck hmk
      rw [← hn0] at hc0 hm0
      clear hnk hn0
      by_cases heq : nk = n0
      · subst heq
        go_wp2
        go_quiet (fail)
        go_wp2
        go_roundw
        case rel => exact ⟨k + 1, by omega, by go_num, fun i hi => by
                      by_cases c : i = k
                      · rw [c, ← HK.out, ← H0.out]
                      · exact HALL.out i (by omega), _, rfl⟩
        case measure => simp [intOf]; omega
      · have tn : ((nk : Int) != (n0 : Int)) = true := by simp; omega
        go_wp2
        go_quiet (fail)
        go_wp2
        go_ret
        exact boolNo rfl (fun h => absurd (h k hlt) (by rw [← HK.out, ← H0.out]; exact heq)) (below_drewN (below_drewN (Below.refl _ _) _) _)
    · have hkn : k = R := by omega
      subst hkn
      go_wp2
      go_ret
      exact boolYes rfl HALL.out (below_drewN (Below.refl _ _) _)

set_option maxHeartbeats 4000000 in
theorem l3Encode_any (v : Value) (R c N : Nat) (n : Nat → Nat) (f : Mat) (h1 : Nat) (w : World) (r : RdM w h1 v R n f) (hh : h1 ≤ w.heap.size) (hR1 : 1 ≤ R) (hR : R ≤ 4) (hc : c ≤ 2) (hN : ∀ i, i < R → n i = N) (hN2 : N ≤ 1000000000) (kf : Byt f) :
    Calls Try.prog 65 #[v, .int .i64 c] w fun e w' => ∃ v', e = .returned v' ∧ OwnM w' w.heap.size w'.heap.size v' c (fun _ => N) (parN R f) ∧ Below w.heap.size w w' := by
  have HR : Hid (RdM w h1 v R n f) := r
  have HNN : Hid (∀ i, i < R → n i = N) := hN
  obtain ⟨ao, cap, e, rfl, hm, hc', he⟩ := r
  clear hm hc' he hN
  go_enter Try.func65, Try.ntmps65
  go_wp2
  have hstart : Bld w (w.alloc (.cells #[] 23)) w.heap.size (.slice (some ⟨w.heap.size, 0, none⟩) 0 0) 0 (fun _ => N) (parN R f) (fun _ => nilS) := by
    have hl := World.ownsRow_lit (base := w.heap.size) (e := 23) (size := 1) w #[] 0 (Nat.le_refl _) (Nat.zero_le _) rfl
    exact ⟨hl, by simp, fun i hi => by omega, fun i j hi => by omega, (Below.refl _ _).alloc (Nat.le_refl _) _, by simp⟩
  go_loopw [6, 7] (fun u i wr => ∃ k : Nat, k ≤ c ∧ i = .int .i64 k ∧ ∃ e, Bld w wr w.heap.size u k (fun _ => N) (parN R f) e) (fun _ i _ => c - (intOf i).toNat)
  case atStart => exact ⟨0, Nat.zero_le _, rfl, _, hstart⟩
  case round =>
    clear hstart
    obtain ⟨k, hk, rfl, e2, hB⟩ := hrel
    have szr := hB.le
    have HB : Hid (Bld w wr w.heap.size u6 k (fun _ => N) (parN R f) e2) := hB
    by_cases hlt : k < c
    · have D := l2Gen_any R (R + k) 8 (by omega) (by omega) wr
      have eRp : ((R + k : Nat) : Int) = (R : Int) + (k : Int) := by simp
      have e0 : ((8 : Nat) : Int) = 8 := rfl
      rw [eRp, e0] at D
      clear hB eRp e0
      go_wp2_with (first | (go_at_call 71; refine D.mono ?_; rintro ee w6 ⟨v6, rfl, o6, b6⟩; obtain ⟨ao6, cap6, rfl⟩ := o6.slice) | (go_at_call 75; refine (l1Mix_any _ _ R N n f (genN R (R + k) 8) h1 w6.heap.size w6 ((HR.out.below HB.out.bel hh).below b6 (Nat.le_trans hh szr)) o6.rd (Nat.le_trans hh (Nat.le_trans szr b6.size)) (Nat.le_refl _) (by omega) HNN.out hN2 kf (genN_lt R (R + k) 8)).mono ?_; rintro ee w7 ⟨v7, rfl, o7, b7⟩; obtain ⟨ao7, cap7, rfl⟩ := o7.slice; have hb7 : Below wr.heap.size wr w7 := b6.trans (b7.mono b6.size)) | (at_builtin; refine wp_appendM rfl (.tmp 16) (.tmp 24) rfl w.heap.size u6 k e2 ?_ ?_ w7.heap.size 1 (.slice ao7 N cap7) ?_ ?_ rfl (by omega) ?_ ?_; (simp [Act.eval]); exact (row_kept HB.out.row fun b hb' => hb7.block b (HB.out.row.lt b hb').2).alloc _; (simp [Act.eval]); simp; (simp; have := hb7.size; omega); intro v4 w4 hr4 hg4 hn4))
      have s6 := b6.size
      have NX := HB.out.next hb7 (o7.weaken s6 (Nat.le_refl _)) hr4 hg4 hn4
      clear b6 b7 hb7 o6 o7 hg4 hn4 hr4 HB D
      go_wp2
      go_roundw
      case rel => exact ⟨k + 1, by omega, by go_num, _, NX⟩
      case measure => simp [intOf]; omega
    · obtain rfl : k = c := by omega
      have OM := hB.done
      have BE := hB.bel
      clear hB
      go_wp2
      go_ret
      exact ⟨_, rfl, OM, BE⟩
end Go.Proofs.Ytoadjpacchhleai
