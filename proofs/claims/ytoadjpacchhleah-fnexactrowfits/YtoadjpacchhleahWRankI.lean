/- Walk of the program's RankG. -/
import Derived.Test.YtoadjpacchhleahWReduce2
import Derived.Test.YtoadjpacchhleahWJoin
import Derived.Test.YtoadjpacchhleahWBytess
import Derived.Test.YtoadjpacchhleahWSz
import Derived.Test.YtoadjpacchhleahWInt
namespace Go.Proofs.Ytoadjpacchhleah
open Go.RowKit F256
set_option linter.unusedVariables false
set_option linter.unusedSimpArgs false

theorem OwnE.congrN {w : World} {lo hi : Nat} {v : Value} {R : Nat} {n n' : Nat → Nat} {M : Mat} {g cap : Nat} {e : Nat → Value} (h : OwnE w lo hi v R n M g cap e) (hn : ∀ i, i < R → n i = n' i) : OwnE w lo hi v R n' M g cap e :=
  ⟨h.val, h.low, h.high, h.row, fun i hi => by rw [← hn i hi]; exact h.each i hi, h.apart⟩
theorem rd_nil (w : World) (hi : Nat) (f : Nat → Nat) : Rd w hi (.slice none 0 0) 0 f := ⟨none, 0, rfl, Nat.zero_le _, fun h => absurd rfl h⟩

/-- the answers of RankG -/
def RankAns (R : Nat) (n : Nat → Nat) (f : Mat) (c x : Int) : Prop :=
  (c = 2 ∧ x = 0 ∧ (16 < R ∨ ∃ i, i < R ∧ 16 < n i)) ∨ (c = 1 ∧ x = 0 ∧ R ≤ 16 ∧ (∀ i, i < R → n i ≤ 16) ∧ ∃ i, i < R ∧ n i ≠ n 0) ∨
    (c = 0 ∧ R ≤ 16 ∧ (∀ i, i < R → n i ≤ 16) ∧ (∀ i, i < R → n i = n 0) ∧ x = (if R = 0 then 0 else ((gaussM R f (n 0)).2 : Int)))
theorem RankAns.one {R : Nat} {n : Nat → Nat} {f : Mat} {c x c' x' : Int} (h : RankAns R n f c x) (k : RankAns R n f c' x') : c = c' ∧ x = x' := by
  rcases h with ⟨rfl, rfl, h1⟩ | ⟨rfl, rfl, h1, h2, i, hi, hne⟩ | ⟨rfl, h1, h2, h3, rfl⟩ <;> rcases k with ⟨rfl, rfl, k1⟩ | ⟨rfl, rfl, k1, k2, j, hj, hne'⟩ | ⟨rfl, k1, k2, k3, rfl⟩
  · exact ⟨rfl, rfl⟩
  · rcases h1 with h1 | ⟨i, hi, h1⟩
    · omega
    · have := k2 i hi; omega
  · rcases h1 with h1 | ⟨i, hi, h1⟩
    · omega
    · have := k2 i hi; omega
  · rcases k1 with k1 | ⟨j, hj, k1⟩
    · omega
    · have := h2 j hj; omega
  · exact ⟨rfl, rfl⟩
  · exact absurd (k3 i hi) hne
  · rcases k1 with k1 | ⟨j, hj, k1⟩
    · omega
    · have := h2 j hj; omega
  · exact absurd (h3 j hj) hne'
  · exact ⟨rfl, rfl⟩

set_option maxHeartbeats 4000000 in
theorem implRank_any (v : Value) (R : Nat) (n : Nat → Nat) (f : Mat) (h1 : Nat) (w : World) (r1 : RdM w h1 v R n f) (hh1 : h1 ≤ w.heap.size) (kf : Byt f) :
    Calls Try.prog 26 #[v] w fun e w' => ∃ c x, e = .returned (intR c x) ∧ RankAns R n f c x ∧ Below w.heap.size w w' := by
  have hb0 : Below w.heap.size w (w.alloc (.cells #[.int .i64 0, .int .i64 0] 39)) := (Below.refl _ _).alloc (Nat.le_refl _) _
  have R0 := r1.below hb0 hh1
  have R1 := r1
  obtain ⟨ao, cap, e, rfl, hm, hc, he⟩ := r1
  unfold maxLen at hm
  by_cases hbig : 16 < R
  · clear hc he R0 R1
    go_enter Try.func26, Try.ntmps26
    go_wp2
    exact bodyPost_ret (v := intR 2 0) (by simp [results, Try.results26, go_sem, intR]) rfl ⟨2, 0, rfl, .inl ⟨rfl, rfl, .inl hbig⟩, (Below.refl _ _).alloc (Nat.le_refl _) _⟩
  have d16 : decide ((16 : Int) < (R : Int)) = false := by simp; omega
  by_cases hlong : ∃ i, i < R ∧ 16 < n i
  · have O := oneLonger_any _ R n f h1 16 (by omega) true ⟨fun h => (by cases h), fun h => by obtain ⟨i, hi, hl⟩ := hlong; have := h i hi; omega⟩ _ R0
    have HL : Hid (∃ i, i < R ∧ 16 < n i) := hlong
    clear hc he R0 R1 hlong
    go_enter Try.func26, Try.ntmps26
    go_wp2_with fail
    refine O.mono ?_
    rintro ee wx ⟨rfl, hwx⟩
    obtain rfl := hwx.symm
    go_wp2
    exact bodyPost_ret (v := intR 2 0) (by simp [results, Try.results26, go_sem, intR]) rfl ⟨2, 0, rfl, .inl ⟨rfl, rfl, .inr HL.out⟩, (Below.refl _ _).alloc (Nat.le_refl _) _⟩
  have hshort : ∀ i, i < R → n i ≤ 16 := fun i hi => Classical.byContradiction fun h => hlong ⟨i, hi, by omega⟩
  have O := oneLonger_any _ R n f h1 16 (by omega) false ⟨fun _ => hshort, fun _ => rfl⟩ _ R0
  have CE := equallyLong_any _ R n f h1 _ R0
  have HSH : Hid (∀ i, i < R → n i ≤ 16) := hshort
  have HE : Hid (∀ i, i < R → Rd w h1 (e i) (n i) (f i)) := he
  have HC : Hid (R ≠ 0 → ∃ b off, ao = some ⟨b, off, none⟩ ∧ b < h1 ∧ ∀ i, i < R → w.cell? ⟨b, off + i, none⟩ = some (e i)) := hc
  clear hc he R0 R1 hlong hshort
  go_enter Try.func26, Try.ntmps26
  go_wp2_with fail
  refine O.mono ?_
  rintro ee wx ⟨rfl, hwx⟩
  obtain rfl := hwx.symm
  clear O
  go_wp2_with fail
  refine CE.mono ?_
  rintro ee w1 ⟨bb, rfl, hbb, hb1⟩
  clear CE
  have HBB : Hid (bb = true ↔ ∀ i, i < R → n i = n 0) := hbb
  clear hbb
  have hbel : Below w.heap.size w w1 := bnew hb1
  have hbx : Box w1 w.heap.size #[.int .i64 0, .int .i64 0] 39 := (box_new w _ _).below hb1 (by simp)
  obtain ⟨x0, x1, y0, y1⟩ := res_cells hbx
  have hl1 := hbx.lt
  clear hb1 hb0
  cases bb with
  | false =>
    have hno : ∃ i, i < R ∧ n i ≠ n 0 := Classical.byContradiction fun hno => absurd (HBB.out.mpr fun i hi => Classical.byContradiction fun h => hno ⟨i, hi, h⟩) (by simp)
    have HNO : Hid (∃ i, i < R ∧ n i ≠ n 0) := hno
    clear hno HBB HE HC
    go_wp2
    exact bodyPost_ret (v := intR 1 0) (by simp [results, Try.results26, go_sem, intR, x0, x1]) rfl ⟨1, 0, rfl, .inr (.inl ⟨rfl, rfl, by omega, HSH.out, HNO.out⟩), (hbel.setCell (Nat.le_refl _) _).setCell (Nat.le_refl _) _⟩
  | true =>
    have HALL : Hid (∀ i, i < R → n i = n 0) := HBB.out.mp rfl
    clear HBB
    by_cases hR0 : R = 0
    · subst hR0
      clear HE HC
      go_wp2
      exact bodyPost_ret (v := intR 0 0) (by simp [results, Try.results26, go_sem, intR, x0, x1]) rfl ⟨0, 0, rfl, .inr (.inr ⟨rfl, by omega, HSH.out, HALL.out, rfl⟩), (hbel.setCell (Nat.le_refl _) _).setCell (Nat.le_refl _) _⟩
    · have t0 : ((R : Int) == 0) = false := by simp; omega
      obtain ⟨b, off, rfl, hblt, hcell⟩ := HC.out hR0
      have HCELL : Hid (∀ i, i < R → w.cell? ⟨b, off + i, none⟩ = some (e i)) := hcell
      clear HC hcell
      have hbw : b < w.heap.size := by omega
      go_wp2_with (at_make; refine wp_makeM _ rfl _ _ rfl _ _ R rfl rfl rfl rfl (by omega) ?_; intro w2 hown2 hb2 hz2)
      have X2 : Box w2 w.heap.size #[.int .i64 0, .int .i64 0] 39 := hbx.below hb2 hl1
      clear x0 x1 y0 y1
      go_loopw [4, 26] (fun _ i wr => ∃ k : Nat, k ≤ R ∧ i = .int .i64 k ∧ ∃ e', Cpy w1 wr R k n f e') (fun _ i _ => R - (intOf i).toNat)
      case atStart => exact ⟨0, Nat.zero_le _, rfl, fun _ => nilS, by rw [valsOf_eq (g := fun _ => nilS) (fun i hi => by simp)]; exact hown2, fun i hi => by omega, ⟨fun i hi => by omega, fun i j hi => by omega⟩, hb2, hz2⟩
      case round =>
        clear hown2 hb2 hz2 X2
        obtain ⟨k, hk, rfl, e', hcp⟩ := hrel
        have hbw1 : Below w.heap.size w wr := bthen hbel hcp.bel
        by_cases hlt : k < R
        · have hrk := (HE.out k hlt).below hbw1 hh1
          have hck : wr.cell? ⟨b, off + k, none⟩ = some (e k) := (hbw1.cell (p := ⟨b, off + k, none⟩) hbw).trans (HCELL.out k hlt)
          have C := joined_nil (e k) (.slice none 0 0) (n k) (f k) (fun _ => 0) h1 0 wr hrk (rd_nil _ _ _) (Nat.le_trans hh1 hbw1.size) (by have := HSH.out k hlt; omega)
          obtain ⟨ek, hek⟩ : ∃ x, x = e k := ⟨_, rfl⟩
          rw [← hek] at hck C
          obtain ⟨ao2, cap2, hsl, hmm, hcc⟩ := hrk
          rw [← hek] at hsl
          subst hsl
          have hl := hcp.lt
          clear hcc hek
          go_wp2_with fail
          refine C.mono ?_
          rintro ee w3 ⟨v3, rfl, ho3, hb3⟩
          obtain ⟨ao3, cap3, rfl⟩ := ho3.slice
          have q1 : w3.cell? ⟨w1.heap.size, k, none⟩ = some nilS := by
            rw [hb3.cell (p := ⟨w1.heap.size, k, none⟩) hl, hcp.row.cellAt k (by omega), valsOf_get _ _ _ hlt, if_neg (Nat.lt_irrefl k)]
          have q2 : w3.frozen? ⟨w1.heap.size, k, none⟩ = false := (hb3.frozen (p := ⟨w1.heap.size, k, none⟩) hl).trans (hcp.row.frozenAt k)
          go_wp2
          have N := hcp.next hlt hb3 ho3
          clear hcp hb3 ho3 q1 q2 hbw1
          go_roundw
          case rel => exact ⟨k + 1, by omega, by go_num, _, N⟩
          case measure => simp [intOf]; omega
        · have hkn : k = R := by omega
          subst hkn
          obtain ⟨gg, cc, e2, hE⟩ := hcp.done
          have hv := hE.val
          simp only [Value.slice.injEq, Option.some.injEq, Addr.mk.injEq, and_true, true_and] at hv
          obtain ⟨rfl, rfl⟩ := hv
          obtain ⟨N, hN⟩ : ∃ N, N = n 0 := ⟨_, rfl⟩
          have HN : Hid (N = n 0) := hN
          have hE2 := hE.congrN (n' := fun _ => N) (fun i hi => by rw [HALL.out i hi, ← hN])
          have hN16 : N ≤ 16 := by rw [hN]; exact HSH.out 0 (by omega)
          have RD := reduceRows_any _ k N N f w1.heap.size w1.heap.size k e2 (Nat.le_refl _) (by omega) (by omega) kf wr hE2
          obtain ⟨ao0, cap0, hs0, hm0, hq0⟩ := HE.out 0 (by omega)
          have hz0 : wr.cell? ⟨b, off, none⟩ = some (.slice ao0 N cap0) := by
            have := (hbw1.cell (p := ⟨b, off + 0, none⟩) hbw).trans (HCELL.out 0 (by omega))
            rw [hs0, ← hN] at this
            exact this
          have X3 : Box wr w.heap.size #[.int .i64 0, .int .i64 0] 39 := hbx.below hcp.bel hl1
          clear hN hE hE2 hs0 hq0 hm0 HE
          go_wp2_with fail
          refine RD.mono ?_
          rintro ee w4 ⟨rfl, hE4, hb4⟩
          have B4 : Below w.heap.size w w4 := hbw1.trans (hb4.mono (by omega))
          have X4 : Box w4 w.heap.size #[.int .i64 0, .int .i64 0] 39 := X3.below hb4 hl1
          obtain ⟨x0, x1, y0, y1⟩ := res_cells X4
          have hle := (gaussM_le (R := k) (M := f) N).1
          obtain ⟨rk, hrk⟩ : ∃ rk, rk = (gaussM k f N).2 := ⟨_, rfl⟩
          have HRK : Hid (rk = (gaussM k f N).2) := hrk
          rw [← hrk] at hle ⊢
          clear hrk hE4 hb4 X3 X4 hz0 RD hcp
          go_wp2
          refine bodyPost_ret (v := intR 0 rk) (by simp [results, Try.results26, go_sem, intR, x0, x1]) rfl ⟨0, rk, rfl, .inr (.inr ⟨rfl, by omega, HSH.out, HALL.out, ?_⟩), (B4.setCell (Nat.le_refl _) _).setCell (Nat.le_refl _) _⟩
          rw [if_neg hR0, HRK.out, HN.out]
end Go.Proofs.Ytoadjpacchhleah
