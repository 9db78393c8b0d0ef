/- Walks of the two MixBytes: their codes and their sums. -/
import Derived.Test.YteelhafnkkfcbahWMix
namespace Go.Proofs.Yteelhafnkkfcbah
open Go.RowKit F256
set_option linter.unusedVariables false
set_option linter.unusedSimpArgs false

/-- no lists, or not as many bytes as lists -/
theorem specMix_form (v1 v2 : Value) (R m : Nat) (n : Nat → Nat) (f : Nat → Nat → Nat) (c : Nat → Nat) (h1 h2 : Nat) (w : World) (r1 : RdM w h1 v1 R n f) (r2 : Rd w h2 v2 m c) (hf : R = 0 ∨ m ≠ R) :
    Calls Try.prog 8 #[v1, v2] w fun e w' => ∃ v', e = .returned (bytesR 1 v') ∧ Own w' w.heap.size w'.heap.size v' 0 (fun _ => 0) ∧ Below w.heap.size w w' := by
  obtain ⟨ao, cap, e, rfl, hm, hc, he⟩ := r1
  obtain ⟨ao2, cap2, rfl, hm2, hc2⟩ := r2
  clear hc hc2 he
  unfold maxLen at hm hm2
  by_cases h0 : R = 0
  · subst h0
    go_enter Try.func8, Try.ntmps8
    go_wp2
    exact bodyPost_ret (v := bytesR 1 (.slice none 0 0)) (by simp [results, Try.results8, go_sem, bytesR]) rfl ⟨_, rfl, own_nil _ _ _ _, (Below.refl _ _).alloc (Nat.le_refl _) _⟩
  · have hne : m ≠ R := by omega
    have t1 : ((R : Int) == 0) = false := by simp; omega
    have t2 : ((m : Int) != (R : Int)) = true := by simp; omega
    clear hf
    go_enter Try.func8, Try.ntmps8
    go_wp2
    exact bodyPost_ret (v := bytesR 1 (.slice none 0 0)) (by simp [results, Try.results8, go_sem, bytesR]) rfl ⟨_, rfl, own_nil _ _ _ _, (Below.refl _ _).alloc (Nat.le_refl _) _⟩
theorem implMix_form (v1 v2 : Value) (R m : Nat) (n : Nat → Nat) (f : Nat → Nat → Nat) (c : Nat → Nat) (h1 h2 : Nat) (w : World) (r1 : RdM w h1 v1 R n f) (r2 : Rd w h2 v2 m c) (hf : R = 0 ∨ m ≠ R) :
    Calls Try.prog 11 #[v1, v2] w fun e w' => ∃ v', e = .returned (bytesR 1 v') ∧ Own w' w.heap.size w'.heap.size v' 0 (fun _ => 0) ∧ Below w.heap.size w w' := by
  obtain ⟨ao, cap, e, rfl, hm, hc, he⟩ := r1
  obtain ⟨ao2, cap2, rfl, hm2, hc2⟩ := r2
  clear hc hc2 he
  unfold maxLen at hm hm2
  by_cases h0 : R = 0
  · subst h0
    go_enter Try.func11, Try.ntmps11
    go_wp2
    exact bodyPost_ret (v := bytesR 1 (.slice none 0 0)) (by simp [results, Try.results11, go_sem, bytesR]) rfl ⟨_, rfl, own_nil _ _ _ _, (Below.refl _ _).alloc (Nat.le_refl _) _⟩
  · have hne : m ≠ R := by omega
    have t1 : ((R : Int) == 0) = false := by simp; omega
    have t2 : ((m : Int) != (R : Int)) = true := by simp; omega
    clear hf
    go_enter Try.func11, Try.ntmps11
    go_wp2
    exact bodyPost_ret (v := bytesR 1 (.slice none 0 0)) (by simp [results, Try.results11, go_sem, bytesR]) rfl ⟨_, rfl, own_nil _ _ _ _, (Below.refl _ _).alloc (Nat.le_refl _) _⟩

/-- behind that: lists not equally long; too many; or their sum -/
def MixAns (R : Nat) (n : Nat → Nat) (x : Int) : Prop :=
  (x = 1 ∧ ∃ k, k < R ∧ n k ≠ n 0) ∨ (x = 2 ∧ (∀ i, i < R → n i = n 0) ∧ (20 < R ∨ 4000 < n 0)) ∨ (x = 0 ∧ (∀ i, i < R → n i = n 0) ∧ R ≤ 20 ∧ n 0 ≤ 4000)
theorem MixAns.one {R : Nat} {n : Nat → Nat} {x y : Int} (h : MixAns R n x) (k : MixAns R n y) : x = y := by
  rcases h with ⟨rfl, i, hi, hne⟩ | ⟨rfl, ha, hb⟩ | ⟨rfl, ha, hb, hc⟩ <;> rcases k with ⟨rfl, j, hj, hne'⟩ | ⟨rfl, ha', hb'⟩ | ⟨rfl, ha', hb', hc'⟩
  · rfl
  · exact absurd (ha' i hi) hne
  · exact absurd (ha' i hi) hne
  · exact absurd (ha j hj) hne'
  · rfl
  · omega
  · exact absurd (ha j hj) hne'
  · omega
  · rfl

set_option maxHeartbeats 2000000 in
theorem specMix_rest (v1 v2 : Value) (R : Nat) (n : Nat → Nat) (f : Nat → Nat → Nat) (c : Nat → Nat) (h1 h2 : Nat) (w : World) (r1 : RdM w h1 v1 R n f) (r2 : Rd w h2 v2 R c) (hh1 : h1 ≤ w.heap.size) (hh2 : h2 ≤ w.heap.size) (hR : 0 < R) (kf : ∀ i j, f i j < 256) (kc : ∀ i, c i < 256) :
    Calls Try.prog 8 #[v1, v2] w fun e w' => ∃ x v', e = .returned (bytesR x v') ∧ MixAns R n x ∧ Own w' w.heap.size w'.heap.size v' (if x = 0 then n 0 else 0) (if x = 0 then mixN f c R else fun _ => 0) ∧ Below w.heap.size w w' := by
  have R1 := r1
  have R2 := r2
  obtain ⟨ao, cap, e, rfl, hm, hc, he⟩ := r1
  obtain ⟨ao2, cap2, rfl, hm2, hc2⟩ := r2
  unfold maxLen at hm hm2
  obtain ⟨b, off, rfl, hblt, hcell⟩ := hc (by omega)
  have t1 : ((R : Int) == 0) = false := by simp; omega
  have hb0 : Below w.heap.size w (w.alloc (.cells #[.int .i64 0, .slice none 0 0] 26)) := (Below.refl _ _).alloc (Nat.le_refl _) _
  obtain ⟨ao0, cap0, hs0, hm0, hq0⟩ := he 0 hR
  have hz0 : w.cell? ⟨b, off, none⟩ = some (.slice ao0 (n 0) cap0) := by rw [← hs0]; exact hcell 0 hR
  have HE : Hid (∀ i, i < R → Rd w h1 (e i) (n i) (f i)) := he
  have HC : Hid (∀ i, i < R → w.cell? ⟨b, off + i, none⟩ = some (e i)) := hcell
  unfold maxLen at hm0
  clear hc hc2 hcell he hs0 hq0
  obtain ⟨N, hN⟩ : ∃ N, N = n 0 := ⟨_, rfl⟩
  have HN : Hid (N = n 0) := hN
  rw [← hN] at hz0 hm0 ⊢
  clear hN
  have hbw : b < w.heap.size := by omega
  go_enter Try.func8, Try.ntmps8
  go_wp2
  go_loopw [5] (fun i wr => ∃ k : Nat, k ≤ R ∧ i = .int .i64 k ∧ (∀ i, i < k → n i = n 0) ∧ ∃ m, wr = (w.alloc (.cells #[.int .i64 0, .slice none 0 0] 26)).drewN m) (fun i _ => R - (intOf i).toNat)
  case atStart => exact ⟨0, Nat.zero_le _, rfl, fun i hi => by omega, 0, rfl⟩
  case round =>
    obtain ⟨k, hk, rfl, hall, m, rfl⟩ := hrel
    by_cases hlt : k < R
    · obtain ⟨aok, capk, hsk, hmk, hqk⟩ := HE.out k hlt
      have hck : w.cell? ⟨b, off + k, none⟩ = some (.slice aok (n k) capk) := by rw [← hsk]; exact HC.out k hlt
      unfold maxLen at hmk
      obtain ⟨nk, hnk⟩ : ∃ x, x = n k := ⟨_, rfl⟩
      have HK : Hid (nk = n k) := hnk
      have HALL : Hid (∀ i, i < k → n i = n 0) := hall
      rw [← hnk] at hck hmk
      clear hnk hsk hqk hall R1 R2 HE HC
      by_cases heq : nk = N
      · subst heq
        go_wp2
        go_quiet (fail)
        go_wp2
        go_roundw
        case rel => exact ⟨k + 1, by omega, by go_num, fun i hi => by
                      by_cases cc : i = k
                      · rw [cc, ← HK.out, ← HN.out]
                      · exact HALL.out i (by omega), _, rfl⟩
        case measure => simp [intOf]; omega
      · have ht : ((nk : Int) != (N : Int)) = true := by simp; omega
        go_wp2
        go_quiet (fail)
        go_wp2
        refine bodyPost_ret (v := bytesR 1 (.slice none 0 0)) (by simp [results, Try.results8, go_sem, bytesR]) rfl ⟨1, _, rfl, .inl ⟨rfl, k, hlt, by rw [← HK.out, ← HN.out]; exact heq⟩, own_nil _ _ _ _, ((below_drewN hb0 _).setCell (Nat.le_refl _) _).setCell (Nat.le_refl _) _⟩
    · have hkn : k = R := by omega
      subst hkn
      have HALL : Hid (∀ i, i < k → n i = n 0) := hall
      by_cases hbig : 20 < k
      · clear hall R1 R2 HE HC
        go_wp2
        exact bodyPost_ret (v := bytesR 2 (.slice none 0 0)) (by simp [results, Try.results8, go_sem, bytesR]) rfl ⟨2, _, rfl, .inr (.inl ⟨rfl, HALL.out, .inl hbig⟩), own_nil _ _ _ _, ((below_drewN hb0 _).setCell (Nat.le_refl _) _).setCell (Nat.le_refl _) _⟩
      · by_cases hbig2 : 4000 < N
        · clear hall R1 R2 HE HC
          go_wp2
          exact bodyPost_ret (v := bytesR 2 (.slice none 0 0)) (by simp [results, Try.results8, go_sem, bytesR]) rfl ⟨2, _, rfl, .inr (.inl ⟨rfl, HALL.out, .inr (by rw [← HN.out]; exact hbig2)⟩), own_nil _ _ _ _, ((below_drewN hb0 _).setCell (Nat.le_refl _) _).setCell (Nat.le_refl _) _⟩
        · have hbm : Below w.heap.size w ((w.alloc (.cells #[.int .i64 0, .slice none 0 0] 26)).drewN m) := below_drewN hb0 m
          have C := l1Mix_any _ _ k N n f c h1 h2 ((w.alloc (.cells #[.int .i64 0, .slice none 0 0] 26)).drewN m) (R1.below hbm hh1) (R2.below hbm hh2) (Nat.le_trans hh1 hbm.size) (Nat.le_trans hh2 hbm.size) hR (fun i hi => by rw [HALL.out i hi, HN.out]) (by omega) kf kc
          clear hall R1 R2 HE HC
          go_wp2_with fail
          refine C.mono ?_
          rintro ee w2 ⟨v2, rfl, ho2, hb2⟩
          obtain ⟨ao', cap', rfl⟩ := ho2.slice
          have hb3 := undrewN hb2
          obtain ⟨hcc, hff⟩ := bcell (W := w.alloc (.cells #[.int .i64 0, .slice none 0 0] 26)) hb3
          go_wp2
          exact bodyPost_ret (v := bytesR 0 (.slice ao' N cap')) (by simp [results, Try.results8, go_sem, bytesR, hcc]) rfl ⟨0, _, rfl, .inr (.inr ⟨rfl, HALL.out, by omega, by rw [← HN.out]; omega⟩), own_set2 (o := .cells #[.int .i64 0, .slice none 0 0] 26) ho2, below_set2 hb3⟩
end Go.Proofs.Yteelhafnkkfcbah
