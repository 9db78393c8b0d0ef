/- Walks of the program's cutBlocks, blocksOf and EncodeRow. -/
import Derived.Test.YtoadjpacchhleahWFlat
import Derived.Test.YtoadjpacchhleahWImplA
import Derived.Test.YtoadjpacchhleahWJoin
namespace Go.Proofs.Ytoadjpacchhleah
open Go.RowKit F256
set_option linter.unusedVariables false
set_option linter.unusedSimpArgs false

theorem joinN_cut (b : Nat → Nat) (t : Nat) : joinN (cutN b) t = b t := by
  unfold joinN cutN
  rw [show 4 * (t / 4) + t % 4 = t by omega]

set_option maxHeartbeats 2000000 in
theorem cutBlocks_any (h C R lo hi : Nat) (b : Nat → Nat) (w : World) (hs : Own w lo hi (.slice (some ⟨h, 0, none⟩) (4 * R) C) (4 * R) b) (hhi : hi ≤ w.heap.size) (hR : R ≤ 1000) :
    Calls Try.prog 69 #[.slice (some ⟨h, 0, none⟩) (4 * R) C] w fun e w' => ∃ v', e = .returned v' ∧ (∃ cap, FlatE w' lo w'.heap.size v' R (cutN b) w.heap.size cap h C) ∧ Below w.heap.size w w' := by
  have hlt0 := hs.1.lt h rfl
  have hC : 4 * R ≤ C := by
    rcases hs.1.2 with ⟨h', _⟩ | ⟨g', cap', cur, h', _, hg, hle, _⟩
    · cases h'
    · cases h'; exact hle
  have hF : Own w h (h + 1) (.slice (some ⟨h, 0, none⟩) (4 * R) C) (4 * R) (joinN (cutN b)) := (hs.tight).congr (fun i _ => (joinN_cut b i).symm)
  have HF : Hid (Own w h (h + 1) (.slice (some ⟨h, 0, none⟩) (4 * R) C) (4 * R) (joinN (cutN b))) := hF
  have hhw : h < w.heap.size := hlt0.2
  have hlh : lo ≤ h := hlt0.1
  clear hs hF hlt0
  obtain ⟨N, hN⟩ : ∃ N, N = 4 * R := ⟨_, rfl⟩
  rw [← hN]
  have hq0 : (N : Int).tdiv 4 = (N : Int) / 4 := Int.tdiv_eq_ediv_of_nonneg (by omega)
  have hq : (N : Int).tdiv 4 = (R : Int) := by omega
  have HN : Hid (N = 4 * R) := hN
  have hNC : N ≤ C := by omega
  have hN4 : N ≤ 4000 := by omega
  clear hN hC
  go_enter Try.func69, Try.ntmps69
  go_wp2_with (at_make; refine wp_makeM _ rfl _ _ rfl _ _ R rfl rfl (by first | rfl | omega | simp [hq]) (by first | rfl | omega | simp [hq]) (by omega) ?_; intro w1 hown1 hb1 hz1)
  go_loopw [4, 5, 6, 13] (fun _ _ _ i wr => ∃ k : Nat, k ≤ R ∧ i = .int .i64 k ∧ wr.ownsRow w.heap.size 23 1 (.slice (some ⟨w.heap.size, 0, none⟩) R R) R (valsOf R fun i => if i < k then rowAt h i else nilS) ∧ Below w.heap.size w wr) (fun _ _ _ i _ => R - (intOf i).toNat)
  case atStart => exact ⟨0, Nat.zero_le _, rfl, by rw [valsOf_eq (g := fun _ => nilS) (fun i hi => by simp)]; exact hown1, hb1⟩
  case round =>
    clear hown1 hb1 hz1
    obtain ⟨k, hk, rfl, hrow, hbel⟩ := hrel
    by_cases hlt : k < R
    · obtain ⟨A, hA⟩ : ∃ A, A = 4 * k := ⟨_, rfl⟩
      have a1 : IntKind.i64.wrap ((k : Int) * 4) = (A : Int) := by rw [IntKind.wrap_i64]; omega
      have a3 : IntKind.i64.wrap (((k : Int) + 1) * 4) = (A : Int) + 4 := by rw [IntKind.wrap_i64]; omega
      have a4 : (k : Int) * 4 = (A : Int) := by omega
      have a5 : ((k : Int) + 1) * 4 = (A : Int) + 4 := by omega
      have a6 : (A : Int) + 4 ≤ (C : Int) := by have := HN.out; omega
      have c1 : wr.cell? ⟨w.heap.size, k, none⟩ = some nilS := by rw [hrow.cellAt k (by omega), valsOf_get _ _ _ hlt, if_neg (Nat.lt_irrefl k)]
      have c2 : wr.frozen? ⟨w.heap.size, k, none⟩ = false := hrow.frozenAt k
      have hst := (hrow.stored k (.slice (some ⟨h, A, none⟩) 4 4)).1
      rw [valsOf_set R _ (fun i => if i < k + 1 then rowAt h i else nilS) k _ hlt (fun i hi => by
        by_cases c : i = k
        · subst c; simp [rowAt, hA]
        · by_cases c' : i < k
          · have c2 : i < k + 1 := by omega
            simp [c, c', c2]
          · have c2 : ¬ i < k + 1 := by omega
            simp [c, c', c2])] at hst
      have RB : Below w.heap.size w (wr.setCell ⟨w.heap.size, k, none⟩ (.slice (some ⟨h, A, none⟩) 4 4)) := hbel.setCell (Nat.le_refl _) _
      clear hA hrow hbel
      go_wp2
      go_roundw
      case rel => exact ⟨k + 1, by omega, by go_num, hst, RB⟩
      case measure => simp [intOf]; omega
    · obtain rfl : k = R := by omega
      rw [valsOf_eq (g := rowAt h) (fun i hi => by simp [hi])] at hrow
      have hw2 := (hrow.lt _ rfl).2
      have hsz := hbel.size
      go_wp2
      go_ret
      exact ⟨_, rfl, ⟨k, rfl, by omega, hw2, row_weaken hrow (by omega), HF.out.below hbel (by omega), hlh, by omega, by omega⟩, hbel⟩

/-- the blocks on the way: the first K are laid, the next one by M of the data blocks, the others are 0 -/
def wayN (D : Nat) (b : Nat → Nat) (K M : Nat) : Mat := fun i j => if i < K then encN D b i j else if i = K then mixN (cutN b) (genN D K 0) M j else 0
theorem wayN_byt {D : Nat} {b : Nat → Nat} (kb : ∀ i, b i < 256) (K M : Nat) : Byt (wayN D b K M) := fun i j => by
  unfold wayN
  split
  · exact encN_byt kb i j
  · split
    · exact mixN_lt _ _ (genN_lt D K 0) _ _
    · omega
theorem wayN_start {D S : Nat} {b b0 : Nat → Nat} (h : ∀ i, i < 4 * (D + S) → b0 i = if i < 4 * D then b i else 0) (i j : Nat) (hi : i < D + S) (hj : j < 4) : cutN b0 i j = wayN D b D 0 i j := by
  unfold cutN wayN
  rw [h (4 * i + j) (by omega)]
  by_cases c : i < D
  · rw [if_pos (by omega), if_pos c]
    simp [encN, c, cutN]
  · rw [if_neg (by omega), if_neg c]
    split <;> rfl
theorem wayN_next {D : Nat} {b : Nat → Nat} {K : Nat} (hK : D ≤ K) (i j : Nat) : wayN D b K D i j = wayN D b (K + 1) 0 i j := by
  unfold wayN
  by_cases c : i < K
  · rw [if_pos c, if_pos (by omega)]
  · rw [if_neg c]
    by_cases c2 : i = K
    · subst c2
      rw [if_pos rfl, if_pos (by omega)]
      simp [encN, show ¬ i < D by omega]
    · rw [if_neg c2, if_neg (by omega)]
      split <;> rfl
theorem wayN_data {D : Nat} {b : Nat → Nat} {K M i : Nat} (hK : D ≤ K) (hi : i < D) (j : Nat) : wayN D b K M i j = cutN b i j := by
  unfold wayN
  rw [if_pos (by omega)]
  simp [encN, hi]
/-- a scaled data block is added to the block K -/
theorem wayN_step {D R : Nat} {b : Nat → Nat} {K M : Nat} (hK : D ≤ K) (hM : M < D) (t : Nat) :
    joinN (wayN D b K (M + 1)) t = if 4 * K ≤ t ∧ t < 4 * K + 4 then joinN (wayN D b K M) t ^^^ mulN (genN D K 0 M) (wayN D b K M M (t - 4 * K)) else joinN (wayN D b K M) t := by
  unfold joinN
  by_cases c : 4 * K ≤ t ∧ t < 4 * K + 4
  · rw [if_pos c, wayN_data hK hM]
    have e1 : t / 4 = K := by omega
    have e2 : t % 4 = t - 4 * K := by omega
    rw [e1, e2]
    simp [wayN, mixN]
  · rw [if_neg c]
    have e1 : t / 4 ≠ K := by omega
    simp [wayN, e1]
theorem FlatE.congr {w : World} {lo hi : Nat} {v : Value} {R : Nat} {f f' : Mat} {g cap h C : Nat} (H : FlatE w lo hi v R f g cap h C) (e : ∀ i j, i < R → j < 4 → f i j = f' i j) : FlatE w lo hi v R f' g cap h C :=
  ⟨H.val, H.low, H.high, H.row, H.flat.congr (fun t ht => e (t / 4) (t % 4) (by omega) (by omega)), H.hlow, H.hhigh, H.ne⟩

theorem joined_pad (vb v2 : Value) (n m : Nat) (b : Nat → Nat) (h1 h2 : Nat) (w : World) (r1 : Rd w h1 vb n b) (r2 : Rd w h2 v2 m (fun _ => 0)) (b1 : h1 ≤ w.heap.size) (b2 : h2 ≤ w.heap.size) (hn : n ≤ 1000000) (hm : m ≤ 1000000) :
    Calls Try.prog 44 #[vb, v2] w fun e w' => ∃ v', e = .returned v' ∧ Own w' w.heap.size w'.heap.size v' (n + m) (fun i => if i < n then b i else 0) ∧ Below w.heap.size w w' := by
  by_cases h0 : m = 0
  · subst h0
    refine (joined_nil vb v2 n b _ h1 h2 w r1 r2 b1 hn).mono fun e w' ⟨v', he, ho, hb⟩ => ⟨v', he, ?_, hb⟩
    exact ho.congr (fun i hi => by simp [hi])
  · exact joined_some vb v2 n m b (fun _ => 0) (fun i => if i < n then b i else 0) h1 h2 w r1 r2 b1 b2 hn hm (by omega) (fun i _ => rfl)

end Go.Proofs.Ytoadjpacchhleah
