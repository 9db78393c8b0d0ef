/- Walks of the program's firstThere and of slices.Contains over numbers. -/
import Derived.Test.YtoadjpacchhleahWImplA
import Derived.Test.YtoadjpacchhleahNth
import Derived.Test.YtoadjpacchhleahWPick
namespace Go.Proofs.Ytoadjpacchhleah
open Go.RowKit F256
set_option linter.unusedVariables false
set_option linter.unusedSimpArgs false

/-- make([]int64, 0, n) -/
theorem wp_makeI0 (w : World) {ops : Array Oper} {rest : List Oper} {o : Oper} {a : Act} {Q : Exit → Act → World → Prop}
    (hg : o.guard = none) (l c : Operand) (hop : o.op = Op.makeSlice 64 l c) (C : Int) (n : Nat) (hl : a.eval l = .int .i64 0) (hc : a.eval c = .int .i64 C) (hC : C = (n : Int)) (hn : n ≤ 1000000000)
    (hK : ∀ w', (∀ f, OwnI w' w.heap.size w'.heap.size (.slice (some ⟨w.heap.size, 0, none⟩) 0 n) 0 f) → Below w.heap.size w w' → w.heap.size < w'.heap.size → wpList Try.prog ops Q rest (a.put o.dst (.slice (some ⟨w.heap.size, 0, none⟩) 0 n)) w') :
    wpList Try.prog ops Q (o :: rest) a w := by
  obtain ⟨i0, hi0, hz0, hz1, hz2⟩ := info_parts info_i64
  refine wpList_make_own w hg l c 64 hop w.heap.size 2 i0 (.int .i64 0) 1 Try.underlying64 hi0 hz0 hz1 .i64 .i64 C n hl hc hC (by rw [hz2]; omega) (by unfold maxLen; omega) (Nat.le_refl _) ?_
  intro w' hown hgrow
  have hlt := (hown.lt _ rfl).2
  exact hK w' (fun f => ⟨hown, fun k hk => (hown.lt k hk).2⟩) (below_of_grown hgrow) hlt

/-- how many are picked of the first k -/
def pickN (D : Nat) (n : Nat → Nat) (k : Nat) : Nat := if cntN n k < D then cntN n k else D
theorem pickN_zero (D : Nat) (n : Nat → Nat) : pickN D n 0 = 0 := by
  have h0 : cntN n 0 = 0 := rfl
  unfold pickN
  rw [h0]
  by_cases c : 0 < D
  · rw [if_pos c]
  · rw [if_neg c]; omega
theorem pickN_none {D : Nat} {n : Nat → Nat} {k : Nat} (h : n k = 0) : pickN D n (k + 1) = pickN D n k := by
  unfold pickN
  rw [cntN, if_pos h]
theorem pickN_more {D : Nat} {n : Nat → Nat} {k : Nat} (h : n k ≠ 0) (hl : pickN D n k < D) : pickN D n (k + 1) = pickN D n k + 1 ∧ pickN D n k = cntN n k := by
  unfold pickN at hl ⊢
  rw [cntN, if_neg h]
  by_cases c : cntN n k < D
  · rw [if_pos c]
    refine ⟨?_, rfl⟩
    split <;> omega
  · rw [if_neg c] at hl
    omega
theorem pickN_full {D : Nat} {n : Nat → Nat} {k : Nat} (hl : ¬ pickN D n k < D) : pickN D n (k + 1) = pickN D n k := by
  unfold pickN at hl ⊢
  by_cases c : cntN n k < D
  · rw [if_pos c] at hl
    omega
  · have := cntN_mono n (show k ≤ k + 1 by omega)
    rw [if_neg c, if_neg (by omega)]
theorem pickN_all {D : Nat} {n : Nat → Nat} {k : Nat} (h : D ≤ cntN n k) : pickN D n k = D := by
  unfold pickN
  rw [if_neg (by omega)]
theorem pickN_few {D : Nat} {n : Nat → Nat} {k : Nat} (h : ¬ D ≤ cntN n k) : pickN D n k < D := by
  unfold pickN
  rw [if_pos (by omega)]
  omega

set_option maxHeartbeats 2000000 in
theorem firstThere_any (D : Nat) (v : Value) (R : Nat) (n : Nat → Nat) (f : Nat → Nat → Nat) (h1 : Nat) (w : World) (r : RdM w h1 v R n f) (hh : h1 ≤ w.heap.size) (hD : D ≤ 1000) :
    Calls Try.prog 58 #[.int .i64 D, v] w fun e w' => ∃ v', e = .returned v' ∧ OwnI w' w.heap.size w'.heap.size v' (pickN D n R) (fun t => (nthN n R t : Int)) ∧ Below w.heap.size w w' := by
  obtain ⟨ao, cap, e, rfl, hm, hc, he⟩ := r
  unfold maxLen at hm
  have HHE : Hid (∀ i, i < R → Rd w h1 (e i) (n i) (f i)) := he
  have HHC : Hid (R ≠ 0 → ∃ b off, ao = some ⟨b, off, none⟩ ∧ b < h1 ∧ ∀ i, i < R → w.cell? ⟨b, off + i, none⟩ = some (e i)) := hc
  clear hc he
  go_enter Try.func58, Try.ntmps58
  go_wp2_with (at_make; refine wp_makeI0 _ rfl _ _ rfl _ D rfl rfl rfl (by omega) ?_; intro w1 hown1 hb1 hz1)
  have I0 := hown1 (fun t => (nthN n R t : Int))
  clear hown1
  go_loopw [5, 11] (fun vh i wr => ∃ c k : Nat, k ≤ R ∧ i = .int .i64 k ∧ c = pickN D n k ∧ OwnI wr w.heap.size wr.heap.size vh c (fun t => (nthN n R t : Int)) ∧ Below w.heap.size w wr) (fun _ i _ => R - (intOf i).toNat)
  case atStart => exact ⟨0, 0, Nat.zero_le _, rfl, (pickN_zero D n).symm, I0, hb1⟩
  case round =>
    clear I0 hb1 hz1
    obtain ⟨c, k, hk, rfl, hck, hI, hb⟩ := hrel
    have HCK : Hid (c = pickN D n k) := hck
    have HI : Hid (OwnI wr w.heap.size wr.heap.size u5 c (fun t => (nthN n R t : Int))) := hI
    have HB : Hid (Below w.heap.size w wr) := hb
    obtain ⟨ao8, cap8, hs8⟩ := hI.slice
    subst hs8
    have szr := hb.size
    have hcD : c ≤ D := by
      rw [hck]
      unfold pickN
      split <;> omega
    clear hck
    by_cases hlt : k < R
    · obtain ⟨b, off, hao, hblt, hcell⟩ := HHC.out (by omega)
      subst hao
      have c1 : wr.cell? ⟨b, off + k, none⟩ = some (e k) := (hb.cell (p := ⟨b, off + k, none⟩) (by show b < w.heap.size; omega)).trans (hcell k hlt)
      obtain ⟨aok, capk, hsk, hmk, hqk⟩ := HHE.out k hlt
      unfold maxLen at hmk
      obtain ⟨nk, hnk⟩ : ∃ x, x = n k := ⟨_, rfl⟩
      have HNK : Hid (nk = n k) := hnk
      rw [hsk, ← hnk] at c1
      rw [← hnk] at hmk
      clear hnk hsk hqk hcell hI hb
      by_cases e1 : nk = 0
      · have HN0 : Hid (nk = 0) := e1
        have t1 : decide ((0 : Int) < (nk : Int)) = false := by simp; omega
        have t1n : decide (0 < nk) = false := by simp; omega
        clear e1
        go_wp2
        go_roundw
        case rel => exact ⟨c, k + 1, by omega, by go_num, by rw [pickN_none (by rw [← HNK.out]; exact HN0.out)]; exact HCK.out, HI.out, HB.out⟩
        case measure => simp [intOf]; omega
      · have HN0 : Hid (nk ≠ 0) := e1
        have t1 : (0 : Int) < (nk : Int) := by omega
        have t1n : decide (0 < nk) = true := by simp; omega
        have hbw : b < w.heap.size := by omega
        clear e1
        by_cases hcd : c < D
        · have t2 : (c : Int) < (D : Int) := by omega
          have HPM := pickN_more (D := D) (n := n) (k := k) (by rw [← HNK.out]; exact HN0.out) (by rw [← HCK.out]; exact hcd)
          have HNT : Hid (nthN n R c = k) := by
            show nthN n R c = k
            rw [HCK.out, HPM.2]
            exact nthN_is hlt (by rw [← HNK.out]; exact HN0.out)
          have HP1 : Hid (pickN D n (k + 1) = c + 1) := by show pickN D n (k + 1) = c + 1; rw [HPM.1, ← HCK.out]
          clear HPM
          go_wp2_with (at_builtin; refine wp_appendIt rfl (.tmp 26) (.tmp 28) rfl w.heap.size wr.heap.size (.slice ao8 c cap8) c (fun t => (nthN n R t : Int)) ?_ ?_ wr.heap.size 1 ?_ ?_ (by omega) ?_ ?_; (simp [Act.eval]); exact HI.out.alloc _; (simp [Act.eval]); (rw [HNT.out]; simp); (simp; omega); intro v2 w2 o2 g2)
          have b2 : Below w.heap.size wr w2 := ((Below.refl w.heap.size wr).alloc szr _).grown g2 (by simp; omega) (fun q hq => (HI.out.1.lt q hq).1)
          have b5 : Below w.heap.size w w2 := HB.out.trans b2
          clear g2 b2 c1 HI HB
          go_wp2
          go_roundw
          case rel => exact ⟨c + 1, k + 1, by omega, by go_num, HP1.out.symm, o2, b5⟩
          case measure => simp [intOf]; omega
        · have t2 : decide ((c : Int) < (D : Int)) = false := by simp; omega
          have t2n : decide (c < D) = false := by simp; omega
          have HP1 : Hid (c = pickN D n (k + 1)) := by
            show c = pickN D n (k + 1)
            rw [pickN_full (by rw [← HCK.out]; exact hcd)]
            exact HCK.out
          clear hcd
          go_wp2
          go_roundw
          case rel => exact ⟨c, k + 1, by omega, by go_num, HP1.out, HI.out, HB.out⟩
          case measure => simp [intOf]; omega
    · obtain rfl : k = R := by omega
      have HI2 : Hid (OwnI wr w.heap.size wr.heap.size (.slice ao8 c cap8) (pickN D n k) (fun t => (nthN n k t : Int))) := by
        show OwnI wr w.heap.size wr.heap.size (.slice ao8 c cap8) (pickN D n k) (fun t => (nthN n k t : Int))
        rw [← HCK.out]; exact hI
      clear hI
      go_wp2
      go_ret
      exact ⟨_, rfl, HI2.out, hb⟩

set_option maxHeartbeats 1000000 in
theorem index_any (v : Value) (n : Nat) (g : Nat → Int) (hi : Nat) (x : Int) (w : World) (r : RdI w hi v n g) :
    Calls Try.prog 78 #[v, .int .i64 x] w fun e w' => ∃ z : Int, e = .returned (.int .i64 z) ∧ (0 ≤ z ↔ ∃ t, t < n ∧ g t = x) ∧ w' = w := by
  obtain ⟨ao, cap, rfl, hm, hc⟩ := r
  unfold maxLen at hm
  go_enter Try.func78, Try.ntmps78
  go_wp2
  go_loop [8] (fun i => ∃ k : Nat, k ≤ n ∧ i = .int .i64 k ∧ ∀ i, i < k → g i ≠ x) (fun i => n - (intOf i).toNat)
  case atStart => exact ⟨0, Nat.zero_le _, rfl, fun i hi => by omega⟩
  case round =>
    obtain ⟨k, hk, rfl, hall⟩ := hrel
    have HALL : Hid (∀ i, i < k → g i ≠ x) := hall
    clear hall
    by_cases hlt : k < n
    · obtain ⟨b, off, rfl, hblt, hcell⟩ := hc (by omega)
      have hck : w.cell? ⟨b, off + k, none⟩ = some (.int .i64 (g k)) := hcell k hlt
      obtain ⟨y, hy⟩ : ∃ y, y = g k := ⟨_, rfl⟩
      have HY : Hid (y = g k) := hy
      rw [← hy] at hck
      clear hc hcell hy
      by_cases heq : x = y
      · have HP : Hid (0 ≤ (k : Int) ↔ ∃ t, t < n ∧ g t = x) := ⟨fun _ => ⟨k, hlt, by rw [← HY.out, heq]⟩, fun _ => by omega⟩
        have te : (x == y) = true := by simp [heq]
        clear heq
        go_wp2
        go_ret
        exact ⟨_, rfl, HP.out, rfl⟩
      · have te : (x == y) = false := by simp [heq]
        have HN : Hid (g k ≠ x) := by show g k ≠ x; rw [← HY.out]; exact fun h => heq h.symm
        clear heq
        go_wp2
        go_round
        case rel => exact ⟨k + 1, by omega, by go_num, fun i hi => by
                      by_cases c : i = k
                      · rw [c]; exact HN.out
                      · exact HALL.out i (by omega)⟩
        case measure => simp [intOf]; omega
    · obtain rfl : k = n := by omega
      have HP : Hid (0 ≤ (-1 : Int) ↔ ∃ t, t < k ∧ g t = x) := ⟨fun h => by omega, fun ⟨t, ht, he⟩ => absurd he (HALL.out t ht)⟩
      clear hc
      go_wp2
      go_ret
      exact ⟨-1, rfl, HP.out, rfl⟩

theorem contains_any (v : Value) (n : Nat) (g : Nat → Int) (hi : Nat) (x : Int) (w : World) (r : RdI w hi v n g) :
    Calls Try.prog 76 #[v, .int .i64 x] w (BoolP (∃ t, t < n ∧ g t = x) w) := by
  have C := index_any v n g hi x w r
  obtain ⟨ao, cap, rfl, hm, hc⟩ := r
  clear hc hm
  have HI : Hid (Calls Try.prog 78 #[.slice ao n cap, .int .i64 x] w fun e w' => ∃ z : Int, e = .returned (.int .i64 z) ∧ (0 ≤ z ↔ ∃ t, t < n ∧ g t = x) ∧ w' = w) := C
  clear C
  obtain ⟨P, hP⟩ : ∃ P : Prop, P = ∃ t, t < n ∧ g t = x := ⟨_, rfl⟩
  rw [← hP] at HI ⊢
  clear hP
  go_enter Try.func76, Try.ntmps76
  go_wp2_with fail
  refine HI.out.mono ?_
  rintro e w1 ⟨z, rfl, hz, hw1⟩
  obtain rfl := hw1.symm
  have HZ : Hid (0 ≤ z ↔ P) := hz
  clear hz HI
  by_cases h0 : 0 ≤ z
  · have HP : Hid P := HZ.out.mp h0
    go_wp2
    go_ret
    exact boolYes rfl HP.out (Below.refl _ _)
  · have HP : Hid (¬ P) := fun h => h0 (HZ.out.mpr h)
    have td : decide (0 ≤ z) = false := by simp; omega
    clear h0
    go_wp2
    go_ret
    exact boolNo rfl HP.out (Below.refl _ _)
end Go.Proofs.Ytoadjpacchhleah
