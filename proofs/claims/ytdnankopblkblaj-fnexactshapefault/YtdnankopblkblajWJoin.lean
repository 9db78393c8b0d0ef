/- Walks: the program's joined (a copy of two slices behind one another) and oneLonger. -/
import Derived.Test.YtdnankopblkblajOwnM
import Derived.Laws.CopyOwn
namespace Go.Proofs.Ytdnankopblkblaj
open Go.RowKit F256
set_option linter.unusedVariables false
set_option linter.unusedSimpArgs false

theorem Own.full {w : World} {lo hi g n : Nat} {f : Nat → Nat} (h : Own w lo hi (.slice (some ⟨g, 0, none⟩) n n) n f) : w.heap[g]? = some (.cells (cellsOf n f).toArray 5 (0, 0)) := by
  rcases h.1.2 with ⟨h', _⟩ | ⟨g', cap', cur, h', _, hg, _, _, hcs, htake⟩
  · simp at h'
  · simp only [Value.slice.injEq, Option.some.injEq, Addr.mk.injEq, and_true, true_and] at h'
    obtain ⟨rfl, rfl⟩ := h'
    have : cur = (cellsOf n f).toArray := by
      rw [← htake, List.take_of_length_le (by simp; omega)]
    rw [← this]
    exact hg
theorem own_of_full {w : World} {lo g n : Nat} {f : Nat → Nat} (hg : w.heap[g]? = some (.cells (cellsOf n f).toArray 5 (0, 0))) (hlo : lo ≤ g) (hm : n ≤ maxLen) : Own w lo w.heap.size (.slice (some ⟨g, 0, none⟩) n n) n f :=
  ⟨⟨by rw [cellsOf_length]; omega, .inr ⟨g, n, _, rfl, hlo, hg, Nat.le_refl _, hm, by simp [cellsOf_length], by simp [List.take_of_length_le, cellsOf_length]⟩⟩, fun k hk => by
    simp [Value.ownBlock] at hk
    subst hk
    exact (Array.getElem?_eq_some_iff.1 hg).1⟩
theorem splice_cells (N off m : Nat) (f t h : Nat → Nat) (hm : off + m ≤ N) (hh : ∀ i, i < N → h i = if off ≤ i ∧ i < off + m then t (i - off) else f i) : splice (cellsOf N f) off (cellsOf m t) = cellsOf N h := by
  unfold splice
  apply List.ext_getElem?
  intro i
  by_cases hi : i < N
  · rw [cellsOf_get N h i hi, hh i hi]
    by_cases h1 : i < off
    · have e1 : ¬ (off ≤ i ∧ i < off + m) := by omega
      rw [if_neg e1, List.getElem?_append_left (by rw [List.length_take, cellsOf_length]; omega), List.getElem?_take, if_pos h1, cellsOf_get N f i hi]
    · rw [List.getElem?_append_right (by rw [List.length_take, cellsOf_length]; omega)]
      have e0 : (List.take off (cellsOf N f)).length = off := by rw [List.length_take, cellsOf_length]; omega
      rw [e0]
      by_cases h2 : i < off + m
      · rw [if_pos ⟨by omega, h2⟩, List.getElem?_append_left (by rw [cellsOf_length]; omega), cellsOf_get m t _ (by omega)]
      · have e1 : ¬ (off ≤ i ∧ i < off + m) := by omega
        rw [if_neg e1, List.getElem?_append_right (by rw [cellsOf_length]; omega), cellsOf_length, List.getElem?_drop, show off + m + (i - off - m) = i by omega, cellsOf_get N f i hi]
  · rw [List.getElem?_eq_none (by simp [cellsOf_length]; omega), List.getElem?_eq_none (by rw [cellsOf_length]; omega)]
theorem add_none' (b off j : Nat) : (⟨b, off, none⟩ : Addr).add j = ⟨b, off + j, none⟩ := by unfold Addr.add; split <;> simp_all

theorem copy_src {w : World} {hi n cap : Nat} {ao : Option Addr} {f : Nat → Nat} (r : Rd w hi (.slice ao n cap) n f) (h : 0 < (cellsOf n f).length) : ∃ ad, ao = some ad ∧ ∀ j v, (cellsOf n f)[j]? = some v → w.cell? (ad.add j) = some v := by
  rw [cellsOf_length] at h
  obtain ⟨ao', cap', he, _, hc⟩ := r
  simp only [Value.slice.injEq, true_and] at he
  obtain ⟨rfl, rfl⟩ := he
  obtain ⟨b, off, rfl, _, hcell⟩ := hc (by omega)
  refine ⟨_, rfl, fun j v hj => ?_⟩
  by_cases hjn : j < n
  · rw [cellsOf_get n f j hjn] at hj
    rw [add_none', hcell j hjn]
    exact hj
  · rw [List.getElem?_eq_none (by rw [cellsOf_length]; omega)] at hj
    cases hj
theorem cellsOf_one (n : Nat) (f : Nat → Nat) : ∀ v ∈ cellsOf n f, v.oneCell' = true := fun v hv => by
  simp only [cellsOf, List.mem_map] at hv
  obtain ⟨i, _, rfl⟩ := hv
  rfl
theorem size_u8 : (Try.prog.info? 5).map (·.size) = some 1 := by kernel_rfl

set_option maxHeartbeats 1000000 in
theorem joined_nil (v1 v2 : Value) (n : Nat) (f t : Nat → Nat) (h1 h2 : Nat) (w : World) (r1 : Rd w h1 v1 n f) (r2 : Rd w h2 v2 0 t) (b1 : h1 ≤ w.heap.size) (hn : n ≤ 1000000) :
    Calls Try.prog 62 #[v1, v2] w fun e w' => ∃ v', e = .returned v' ∧ Own w' w.heap.size w'.heap.size v' n f ∧ Below w.heap.size w w' := by
  have R1 := fun (w1 : World) (hb : Below w.heap.size w w1) => r1.below hb b1
  obtain ⟨ao, cap, rfl, hm1, hc1⟩ := r1
  obtain ⟨ao2, cap2, rfl, hm2, hc2⟩ := r2
  clear hc1 hc2
  have HS : Hid (splice (cellsOf n fun _ => 0) 0 (cellsOf n f) = cellsOf n f) := splice_cells n 0 n _ f f (by omega) (fun i hi => by simp [hi])
  have L1 : (cellsOf n f).length = Nat.min n n := by rw [cellsOf_length]; exact (Nat.min_self n).symm
  have L2 : 0 + (cellsOf n f).length ≤ (cellsOf n fun _ => 0).length := by simp [cellsOf_length]
  have HL1 : Hid ((cellsOf n f).length = Nat.min n n) := L1
  have HL2 : Hid (0 + (cellsOf n f).length ≤ (cellsOf n fun _ => 0).length) := L2
  clear L1 L2
  go_enter Try.func62, Try.ntmps62
  go_wp2_with (first | (at_make; refine wp_makeB _ rfl _ _ rfl _ _ n rfl rfl (by simp) (by simp) (by omega) ?_; intro w1 hown1 hb1 hz1) | (refine wpList_copy_splice rfl (.tmp 12) (.tmp 13) 23 23 rfl 5 Try.underlying23 size_u8 (some ⟨w.heap.size, 0, none⟩) ao n n n cap rfl rfl w.heap.size 0 (cellsOf n fun _ => 0) 5 hown1.full (cellsOf n f) HL1.out (fun hp => ⟨rfl, copy_src (R1 w1 hb1) hp⟩) HL2.out (cellsOf_one n f) w.heap.size w hb1 (Nat.le_refl _) ?_; intro w2 hF2 hb2) | (refine wpList_copy_nothing rfl (.tmp 18) (.tmp 19) 23 23 rfl 5 Try.underlying23 size_u8 _ _ _ _ _ _ rfl rfl (by simp) ?_))
  go_ret
  have F2 := hF2.out
  rw [HS.out] at F2
  exact ⟨_, rfl, own_of_full F2 (Nat.le_refl _) (by unfold maxLen; omega), hb2⟩

set_option maxHeartbeats 1000000 in
theorem joined_some (v1 v2 : Value) (n m : Nat) (f t h : Nat → Nat) (h1 h2 : Nat) (w : World) (r1 : Rd w h1 v1 n f) (r2 : Rd w h2 v2 m t) (b1 : h1 ≤ w.heap.size) (b2 : h2 ≤ w.heap.size) (hn : n ≤ 1000000) (hm : m ≤ 1000000) (hm0 : 0 < m)
    (hh : ∀ i, i < n + m → h i = if i < n then f i else t (i - n)) :
    Calls Try.prog 62 #[v1, v2] w fun e w' => ∃ v', e = .returned v' ∧ Own w' w.heap.size w'.heap.size v' (n + m) h ∧ Below w.heap.size w w' := by
  have R1 := fun (w1 : World) (hb : Below w.heap.size w w1) => r1.below hb b1
  have R2 := fun (w1 : World) (hb : Below w.heap.size w w1) => r2.below hb b2
  obtain ⟨ao, cap, rfl, hm1, hc1⟩ := r1
  obtain ⟨ao2, cap2, rfl, hm2, hc2⟩ := r2
  clear hc1 hc2
  obtain ⟨N, hN⟩ : ∃ N, N = n + m := ⟨_, rfl⟩
  have hNi : (n : Int) + (m : Int) = (N : Int) := by omega
  have hNs : N - n = m := by omega
  have hnN : n < N := by omega
  have S1 : splice (cellsOf N fun _ => 0) 0 (cellsOf n f) = cellsOf N (fun i => if i < n then f i else 0) := splice_cells N 0 n _ f _ (by omega) (fun i hi => by simp)
  have S2 : splice (cellsOf N (fun i => if i < n then f i else 0)) n (cellsOf m t) = cellsOf N h := splice_cells N n m _ t h (by omega) (fun i hi => by
    rw [hh i (by omega)]
    by_cases c : i < n
    · have c2 : ¬ (n ≤ i ∧ i < n + m) := by omega
      rw [if_pos c, if_neg c2, if_pos c]
    · rw [if_neg c, if_pos ⟨by omega, by omega⟩])
  have L1 : (cellsOf n f).length = Nat.min n N := by rw [cellsOf_length]; exact (Nat.min_eq_left (by omega)).symm
  have L2 : 0 + (cellsOf n f).length ≤ (cellsOf N fun _ => 0).length := by simp [cellsOf_length]; omega
  have L3 : (cellsOf m t).length = Nat.min m m := by rw [cellsOf_length]; exact (Nat.min_self m).symm
  have L4 : n + (cellsOf m t).length ≤ (cellsOf N (fun i => if i < n then f i else 0)).length := by simp [cellsOf_length]; omega
  have H1 : Hid ((cellsOf n f).length = Nat.min n N) := L1
  have H2 : Hid (0 + (cellsOf n f).length ≤ (cellsOf N fun _ => 0).length) := L2
  have H3 : Hid ((cellsOf m t).length = Nat.min m m) := L3
  have H4 : Hid (n + (cellsOf m t).length ≤ (cellsOf N (fun i => if i < n then f i else 0)).length) := L4
  have HS1 : Hid (splice (cellsOf N fun _ => 0) 0 (cellsOf n f) = cellsOf N (fun i => if i < n then f i else 0)) := S1
  have HS2 : Hid (splice (cellsOf N (fun i => if i < n then f i else 0)) n (cellsOf m t) = cellsOf N h) := S2
  rw [← hN]
  have HN : Hid (N = n + m) := hN
  clear L1 L2 L3 L4 S1 S2 hh hN
  go_enter Try.func62, Try.ntmps62
  go_wp2_with (first | (at_make; refine wp_makeB _ rfl _ _ rfl _ _ N rfl rfl (by first | rfl | simp [hNi]) (by first | rfl | simp [hNi]) (by omega) ?_; intro w1 hown1 hb1 hz1) | (refine wpList_copy_splice rfl (.tmp 12) (.tmp 13) 23 23 rfl 5 Try.underlying23 size_u8 (some ⟨w.heap.size, 0, none⟩) ao N N n cap rfl rfl w.heap.size 0 (cellsOf N fun _ => 0) 5 hown1.full (cellsOf n f) H1.out (fun hp => ⟨rfl, copy_src (R1 w1 hb1) hp⟩) H2.out (cellsOf_one n f) w.heap.size w hb1 (Nat.le_refl _) ?_; intro w2 hF2 hb2; rw [HS1.out] at hF2) | (refine wpList_copy_splice rfl (.tmp 18) (.tmp 19) 23 23 rfl 5 Try.underlying23 size_u8 (some ⟨w.heap.size, n, none⟩) ao2 m m m cap2 ?_ rfl w.heap.size n (cellsOf N (fun i => if i < n then f i else 0)) 5 hF2.out (cellsOf m t) H3.out (fun hp => ⟨rfl, copy_src (R2 w2 hb2) hp⟩) H4.out (cellsOf_one m t) w.heap.size w hb2 (Nat.le_refl _) ?_; (simp [Act.eval, hNs]); intro w3 hF3 hb3))
  go_ret
  have F3 := hF3.out
  rw [HS2.out] at F3
  exact ⟨_, rfl, own_of_full F3 (Nat.le_refl _) (by unfold maxLen; omega), hb3⟩

set_option maxHeartbeats 1000000 in
/-- whether a row is longer than most -/
theorem oneLonger_any (v : Value) (R : Nat) (n : Nat → Nat) (f : Nat → Nat → Nat) (hi : Nat) (most : Nat) (hmost : most ≤ 1000000) (bb : Bool) (hbb : bb = false ↔ ∀ i, i < R → n i ≤ most) (w : World) (r : RdM w hi v R n f) :
    Calls Try.prog 54 #[v, .int .i64 most] w fun e w' => e = .returned (.bool bb) ∧ w' = w := by
  obtain ⟨ao, cap, e, rfl, hm, hc, he⟩ := r
  unfold maxLen at hm
  have HB : Hid (bb = false ↔ ∀ i, i < R → n i ≤ most) := hbb
  clear hbb
  go_enter Try.func54, Try.ntmps54
  go_wp2
  go_loop [5, 8] (fun _ i => ∃ k : Nat, k ≤ R ∧ i = .int .i64 k ∧ ∀ i, i < k → n i ≤ most) (fun _ i => R - (intOf i).toNat)
  case atStart => exact ⟨0, Nat.zero_le _, rfl, fun i hi => by omega⟩
  case round =>
    obtain ⟨k, hk, rfl, hall⟩ := hrel
    by_cases hlt : k < R
    · obtain ⟨b, off, rfl, hblt, hcell⟩ := hc (by omega)
      obtain ⟨aok, capk, hsk, hmk, hqk⟩ := he k hlt
      have hck : w.cell? ⟨b, off + k, none⟩ = some (.slice aok (n k) capk) := by rw [← hsk]; exact hcell k hlt
      unfold maxLen at hmk
      obtain ⟨nk, hnk⟩ : ∃ x, x = n k := ⟨_, rfl⟩
      have HK : Hid (nk = n k) := hnk
      have HALL : Hid (∀ i, i < k → n i ≤ most) := hall
      rw [← hnk] at hck hmk
      clear hc hcell he hsk hqk hall hnk
      by_cases hle : nk ≤ most
      · go_wp2
        go_round
        case rel => exact ⟨k + 1, by omega, by go_num, fun i hi => by
                      by_cases cc : i = k
                      · rw [cc, ← HK.out]; exact hle
                      · exact HALL.out i (by omega)⟩
        case measure => simp [intOf]; omega
      · obtain rfl : bb = true := by
          cases bb with
          | true => rfl
          | false => exact absurd (HB.out.mp rfl k hlt) (by rw [← HK.out]; exact hle)
        go_wp2
        go_ret
        exact ⟨rfl, rfl⟩
    · have hkn : k = R := by omega
      subst hkn
      obtain rfl : bb = false := HB.out.mpr hall
      clear hall
      go_wp2
      go_ret
      exact ⟨rfl, rfl⟩
end Go.Proofs.Ytdnankopblkblaj
