/- Walks of the program's columnInBounds, parityOf and EncodeColumn. -/
import Derived.Test.YtoadjpacchhleaiWImplA
import Derived.Test.YtoadjpacchhleaiWBld
import Derived.Test.YtoadjpacchhleaiColDefs
import Derived.Test.YtoadjpacchhleaiWReduce2
import Derived.Test.YtoadjpacchhleaiWRankI
namespace Go.Proofs.Ytoadjpacchhleai
open Go.RowKit F256
set_option linter.unusedVariables false
set_option linter.unusedSimpArgs false

theorem columnInBounds_any (d s : Int) (w : World) :
    Calls Try.prog 66 #[.int .i64 d, .int .i64 s] w (BoolP (Shp3 d s) w) := by
  by_cases h1 : 1 ≤ d
  · by_cases h2 : d ≤ 4
    · by_cases h3 : 0 ≤ s
      · by_cases h4 : s ≤ 2
        · go_enter Try.func66, Try.ntmps66
          go_wp2
          go_ret
          exact boolYes rfl ⟨by omega, by omega, by omega, by omega⟩ (Below.refl _ _)
        · have e4 : decide (s ≤ 2) = false := by simp; omega
          have H : Hid (¬ Shp3 d s) := fun h => h4 h.2.2.2
          clear h4
          go_enter Try.func66, Try.ntmps66
          go_wp2
          go_ret
          exact boolNo rfl H.out (Below.refl _ _)
      · have e3 : decide (0 ≤ s) = false := by simp; omega
        have H : Hid (¬ Shp3 d s) := fun h => h3 h.2.2.1
        clear h3
        go_enter Try.func66, Try.ntmps66
        go_wp2
        go_ret
        exact boolNo rfl H.out (Below.refl _ _)
    · have e2 : decide (d ≤ 4) = false := by simp; omega
      have H : Hid (¬ Shp3 d s) := fun h => h2 h.2.1
      clear h2
      go_enter Try.func66, Try.ntmps66
      go_wp2
      go_ret
      exact boolNo rfl H.out (Below.refl _ _)
  · have e1 : decide (1 ≤ d) = false := by simp; omega
    have H : Hid (¬ Shp3 d s) := fun h => h1 h.1
    clear h1
    go_enter Try.func66, Try.ntmps66
    go_wp2
    go_ret
    exact boolNo rfl H.out (Below.refl _ _)

/-- the row i changed in its place, whatever the rows' lengths -/
theorem OwnE.updN {w w' : World} {lo hi : Nat} {v : Value} {R : Nat} {n : Nat → Nat} {M M' : Mat} {g cap : Nat} {e : Nat → Value} (h : OwnE w lo hi v R n M g cap e) (i : Nat) (hi' : i < R) (hc : Chg (tlo (e i) lo) (thi (e i) lo) w w')
    (ho : Own w' lo hi (e i) (n i) (M' i)) (hM : ∀ j, j < R → j ≠ i → M' j = M j) : OwnE w' lo hi v R n M' g cap e := by
  refine ⟨h.val, h.low, h.high, row_kept h.row fun k hk => ?_, fun j hj => ?_, h.apart⟩
  · have hlt := (h.row.lt k hk).2
    rw [h.val] at hk
    simp [Value.ownBlock] at hk
    subst hk
    exact hc.block g hlt (not_in_tight fun q hq hh => h.apart.1 i hi' (by rw [hq, hh]))
  · by_cases e1 : j = i
    · subst e1; exact ho
    · rw [hM j hj e1]
      refine (h.each j hj).kept fun k hk => ?_
      exact hc.block k ((h.each j hj).1.lt k hk).2 (not_in_tight fun q hq hh => h.apart.2 i j hi' hj (fun x => e1 x.symm) q hq (by rw [← hh]; exact hk))
/-- R rows, none of them there yet -/
theorem ownE_made {w : World} {lo hi g R : Nat} {f : Mat} {n : Nat → Nat} (h : w.ownsRow lo 23 1 (.slice (some ⟨g, 0, none⟩) R R) R (valsOf R fun _ => nilS)) (h1 : lo ≤ g) (h2 : g < hi) (hn : ∀ i, i < R → n i = 0) :
    OwnE w lo hi (.slice (some ⟨g, 0, none⟩) R R) R n f g R (fun _ => nilS) :=
  ⟨rfl, h1, h2, h, fun i hi => by rw [hn i hi]; exact own_nil _ _ _ _, ⟨fun i hi h => by simp [Value.ownBlock] at h, fun i j hi hj hne k hk => by simp [Value.ownBlock] at hk⟩⟩
/-- the rows' lengths behind k of them -/
def lenN (N k : Nat) : Nat → Nat := fun i => if i < k then N else 0
/-- the rows P, of which the row k is summed up to m -/
def sumM (P : Mat) (f : Mat) (G : Nat → Nat) (k m : Nat) : Mat := fun i => if i = k then mixN f G m else P i

set_option maxHeartbeats 4000000 in
theorem parityOf_any (v : Value) (R C N : Nat) (n : Nat → Nat) (f : Mat) (h1 : Nat) (w : World) (r : RdM w h1 v R n f) (hh : h1 ≤ w.heap.size) (hR1 : 1 ≤ R) (hR : R ≤ 4) (hC : C ≤ 2) (hN : ∀ i, i < R → n i = N) (hN2 : N ≤ 1000000000) (kf : Byt f) :
    Calls Try.prog 68 #[v, .int .i64 C] w fun e w' => ∃ v', e = .returned v' ∧ OwnM w' w.heap.size w'.heap.size v' C (fun _ => N) (parN R f) ∧ Below w.heap.size w w' := by
  obtain ⟨ao, cap, e, rfl, hm, hc, he⟩ := r
  unfold maxLen at hm
  obtain ⟨b, off, rfl, hblt, hcell⟩ := hc (by omega)
  have hbw : b < w.heap.size := by omega
  have HE : Hid (∀ i, i < R → Rd w h1 (e i) N (f i)) := fun i hi => by have := he i hi; rw [hN i hi] at this; exact this
  have HC : Hid (∀ i, i < R → w.cell? ⟨b, off + i, none⟩ = some (e i)) := hcell
  obtain ⟨ao0, cap0, hs0, hm0, hq0⟩ := HE.out 0 (by omega)
  have HC0 : Hid (w.cell? ⟨b, off, none⟩ = some (.slice ao0 N cap0)) := by
    show w.cell? ⟨b, off, none⟩ = some (.slice ao0 N cap0)
    rw [← hs0]
    exact hcell 0 (by omega)
  clear hc he hN hs0 hq0 hm0 hcell
  go_enter Try.func68, Try.ntmps68
  go_wp2_with (at_make; refine wp_makeM _ rfl _ _ rfl _ _ C rfl rfl rfl rfl (by omega) ?_; intro w1 hown1 hb1 hz1)
  have E0 : OwnE w1 w.heap.size w1.heap.size (.slice (some ⟨w.heap.size, 0, none⟩) C C) C (lenN N 0) (parN R f) w.heap.size C (fun _ => nilS) := ownE_made hown1 (Nat.le_refl _) hz1 (fun i hi => by simp [lenN])
  clear hown1
  go_loopw [15] (fun i wr => ∃ k : Nat, k ≤ C ∧ i = .int .i64 k ∧ ∃ e', OwnE wr w.heap.size wr.heap.size (.slice (some ⟨w.heap.size, 0, none⟩) C C) C (lenN N k) (parN R f) w.heap.size C e' ∧ Below w.heap.size w wr) (fun i _ => C - (intOf i).toNat)
  case atStart => exact ⟨0, Nat.zero_le _, rfl, _, E0, hb1⟩
  case round =>
    clear E0 hb1 hz1
    obtain ⟨k, hk, rfl, e', hE, hb⟩ := hrel
    by_cases hlt : k < C
    · have HOE : Hid (OwnE wr w.heap.size wr.heap.size (.slice (some ⟨w.heap.size, 0, none⟩) C C) C (lenN N k) (parN R f) w.heap.size C e') := hE
      have HB : Hid (Below w.heap.size w wr) := hb
      have c0 : wr.cell? ⟨b, off, none⟩ = some (.slice ao0 N cap0) := (hb.cell (p := ⟨b, off, none⟩) hbw).trans HC0.out
      have szr := hb.size
      have hgr := hE.high
      clear hE hb
      go_wp2_with (at_make; refine wp_makeB _ rfl _ _ rfl _ _ N rfl rfl rfl rfl (by omega) ?_; intro w2 ho2 hb2 hz2; have q1 : w2.cell? ⟨w.heap.size, k, none⟩ = some (e' k) := (HOE.out.below hb2 (Nat.le_refl _)).cell k hlt; have q2 : w2.frozen? ⟨w.heap.size, k, none⟩ = false := (HOE.out.below hb2 (Nat.le_refl _)).frozen k)
      have eRk : ((R + k : Nat) : Int) = (R : Int) + (k : Int) := by simp
      have e136 : ((136 : Nat) : Int) = 136 := rfl
      obtain ⟨wk, hwk⟩ : ∃ wk, wk = wr := ⟨_, rfl⟩
      rw [← hwk] at ho2 hb2 hz2 HOE HB szr hgr ⊢
      obtain ⟨row, hrow⟩ : ∃ row : Value, row = .slice (some ⟨wk.heap.size, 0, none⟩) N N := ⟨_, rfl⟩
      obtain ⟨E1, hE1k, ER⟩ : ∃ E1 : Nat → Value, E1 k = row ∧ OwnE (w2.setCell ⟨w.heap.size, k, none⟩ (.slice (some ⟨wk.heap.size, 0, none⟩) N N)) w.heap.size w2.heap.size (.slice (some ⟨w.heap.size, 0, none⟩) C C) C (lenN N (k + 1)) (sumM (parN R f) f (genN R (R + k) 8) k 0) w.heap.size C E1 :=
        ⟨_, by simp [hrow], (HOE.out.below hb2 (Nat.le_refl _)).lay k hlt (n' := lenN N (k + 1)) (M' := sumM (parN R f) f (genN R (R + k) 8) k 0) (lo2 := wk.heap.size) (hi2 := w2.heap.size) (by
          rw [show lenN N (k + 1) k = N by simp [lenN]]
          exact ho2.congr (fun i _ => by simp [sumM, mixN])) (Nat.le_refl _) hb2.size (fun j hj hne => by
          unfold lenN
          by_cases c : j < k
          · rw [if_pos c, if_pos (by omega)]
          · rw [if_neg c, if_neg (by omega)]) (fun j hj hne => by simp [sumM, hne])⟩
      have BA : Below w.heap.size w (w2.setCell ⟨w.heap.size, k, none⟩ (.slice (some ⟨wk.heap.size, 0, none⟩) N N)) := (HB.out.trans (hb2.mono szr)).setCell (Nat.le_refl _) _
      obtain ⟨wA, hwA⟩ : ∃ wA, wA = w2.setCell ⟨w.heap.size, k, none⟩ (.slice (some ⟨wk.heap.size, 0, none⟩) N N) := ⟨_, rfl⟩
      have hsA : wA.heap.size = w2.heap.size := by rw [hwA]; simp
      have CF := factorsFrom_any 8 R (R + k) 136 rfl (by omega) (by omega) (by omega) wA
      rw [eRk, e136] at CF
      rw [← hwA] at ER BA ⊢
      clear ho2 hb2 q1 q2 HOE HB c0 hwk hwA
      refine CF.mono ?_
      rintro ee w3 ⟨v3, rfl, o3, b3⟩
      obtain ⟨gv, capv, hgv, h31, h32, h33, h34⟩ := o3.form (by omega)
      subst hgv
      have s3 := b3.size
      rw [hsA] at o3 h31 s3
      have E3 := ER.below b3 (by omega)
      have B3 : Below w.heap.size w w3 := BA.trans (b3.mono (by omega))
      clear CF b3 ER BA
      go_wp2
      go_loopw [32] (fun i wr => ∃ m : Nat, m ≤ R ∧ i = .int .i64 m ∧ OwnE wr w.heap.size w2.heap.size (.slice (some ⟨w.heap.size, 0, none⟩) C C) C (lenN N (k + 1)) (sumM (parN R f) f (genN R (R + k) 8) k m) w.heap.size C E1 ∧ Own wr w2.heap.size w3.heap.size (.slice (some ⟨gv, 0, none⟩) R capv) R (genN R (R + k) 8) ∧ Below w.heap.size w wr ∧ w3.heap.size ≤ wr.heap.size) (fun i _ => R - (intOf i).toNat)
      case atStart => exact ⟨0, Nat.zero_le _, rfl, E3, o3, B3, Nat.le_refl _⟩
      case round =>
        clear E3 o3 B3
        obtain ⟨m, hm', rfl, hE, ho, hb, hsz⟩ := hrel
        by_cases hmR : m < R
        · obtain ⟨y, hy⟩ : ∃ y, y = genN R (R + k) 8 m := ⟨_, rfl⟩
          have hyl : y < 256 := by rw [hy]; exact genN_lt R (R + k) 8 m
          have c1 : wr.cell? ⟨w.heap.size, k, none⟩ = some (.slice (some ⟨wk.heap.size, 0, none⟩) N N) := by rw [← hrow, ← hE1k]; exact hE.cell k hlt
          have c2 : wr.cell? ⟨b, off + m, none⟩ = some (e m) := (hb.cell (p := ⟨b, off + m, none⟩) hbw).trans (HC.out m hmR)
          have c3 : wr.cell? ⟨gv, m, none⟩ = some (.int .u8 y) := by rw [hy]; exact (ho.1.cellAt m (by omega)).trans (cellsOf_get _ _ _ hmR)
          have ok : Own wr w.heap.size w2.heap.size (.slice (some ⟨wk.heap.size, 0, none⟩) N N) N (mixN f (genN R (R + k) 8) m) := by
            have := hE.each k hlt
            rw [hE1k, hrow, show lenN N (k + 1) k = N by simp [lenN], show sumM (parN R f) f (genN R (R + k) 8) k m k = mixN f (genN R (R + k) 8) m by simp [sumM]] at this
            exact this
          have rm : Rd wr h1 (e m) N (f m) := (HE.out m hmR).below hb hh
          have CA := addScaled_any (.slice (some ⟨wk.heap.size, 0, none⟩) N N) (e m) N (mixN f (genN R (R + k) 8) m) (f m) (mixN f (genN R (R + k) 8) (m + 1)) y wk.heap.size (wk.heap.size + 1) h1 (wr.drewN 1) (ok.tight.drewN 1) (by show wk.heap.size + 1 ≤ wr.heap.size; omega) rm (by omega) (by show h1 ≤ wr.heap.size; omega) (mixN_lt f _ (genN_lt R (R + k) 8) m) (kf m) hyl (fun i _ => by rw [hy]; rfl) hN2
          have HOE : Hid (OwnE wr w.heap.size w2.heap.size (.slice (some ⟨w.heap.size, 0, none⟩) C C) C (lenN N (k + 1)) (sumM (parN R f) f (genN R (R + k) 8) k m) w.heap.size C E1) := hE
          have HO : Hid (Own wr w2.heap.size w3.heap.size (.slice (some ⟨gv, 0, none⟩) R capv) R (genN R (R + k) 8)) := ho
          have HOK : Hid (Own wr w.heap.size w2.heap.size (.slice (some ⟨wk.heap.size, 0, none⟩) N N) N (mixN f (genN R (R + k) 8) m)) := ok
          have HBL : Hid (Below w.heap.size w wr) := hb
          obtain ⟨x, hx⟩ : ∃ x, x = e m := ⟨_, rfl⟩
          rw [← hx] at c2 CA rm
          obtain ⟨aox, capx, hsx, _, _⟩ := rm
          subst hsx
          have HE1 : Hid (E1 k = row) := hE1k
          have HRW : Hid (row = .slice (some ⟨wk.heap.size, 0, none⟩) N N) := hrow
          clear hE ho hb ok hx hy hE1k hrow
          go_wp2
          go_region_with (go_at_call 61; refine CA.mono ?_; rintro ee w7 ⟨rfl, o7, ch7⟩)
          all_goals
            have E7 := (HOE.out.drewN 1).updN (M' := sumM (parN R f) f (genN R (R + k) 8) k (m + 1)) k hlt (by rw [HE1.out, HRW.out]; exact ch7) (by
              rw [HE1.out, HRW.out, show lenN N (k + 1) k = N by simp [lenN], show sumM (parN R f) f (genN R (R + k) 8) k (m + 1) k = mixN f (genN R (R + k) 8) (m + 1) by simp [sumM]]
              exact HOK.out.untight o7) (fun j hj hne => by simp [sumM, hne])
            have O7 : Own w7 w2.heap.size w3.heap.size (.slice (some ⟨gv, 0, none⟩) R capv) R (genN R (R + k) 8) := (HO.out.drewN 1).chg ch7 (.inr (by omega))
            have B7 : Below w.heap.size w w7 := (below_drewN HBL.out 1).trans (ch7.below (by omega) HBL.out.size)
            have S7 : w3.heap.size ≤ w7.heap.size := Nat.le_trans hsz ch7.size
            have q5 := HE1.out
            have q6 := HRW.out
            clear o7 ch7 HOE HO HBL HOK CA c1 c2 c3
            go_wp2
            go_roundw
            case rel => exact ⟨m + 1, by omega, by go_num, E7, O7, B7, S7⟩
            case measure => simp [intOf]; omega
        · obtain rfl : m = R := by omega
          have E8 : OwnE wr w.heap.size wr.heap.size (.slice (some ⟨w.heap.size, 0, none⟩) C C) C (lenN N (k + 1)) (parN m f) w.heap.size C E1 := by
            have h9 := hE.weaken (hi' := wr.heap.size) (by omega)
            have e9 : sumM (parN m f) f (genN m (m + k) 8) k m = parN m f := by
              funext i
              unfold sumM
              by_cases c : i = k
              · rw [if_pos c, c]; rfl
              · rw [if_neg c]
            rw [e9] at h9
            exact h9
          clear hE ho
          go_wp2
          go_roundw
          case rel => exact ⟨k + 1, by omega, by go_num, E1, E8, hb⟩
          case measure => simp [intOf]; omega
    · obtain rfl : k = C := by omega
      have E9 := hE.congrN (n' := fun _ => N) (fun i hi => by simp [lenN, hi])
      clear hE
      go_wp2
      go_ret
      exact ⟨_, rfl, ⟨_, _, _, E9⟩, hb⟩
end Go.Proofs.Ytoadjpacchhleai
