/- Walk of the program's columnWeights: the weights of every list of a column. -/
import Derived.Test.YtoadjpacchhleajWImplN
namespace Go.Proofs.Ytoadjpacchhleaj
open Go.RowKit F256
set_option linter.unusedVariables false
set_option linter.unusedSimpArgs false

/-- the weights as the program reckons them -/
def colW (D : Nat) (hv : Nat → Nat) : Mat := fun p => mixN (dW D hv) (genN D p 8) D

set_option maxHeartbeats 4000000 in
theorem columnWeights_any (D C : Nat) (vh : Value) (hv : Nat → Nat) (h1 : Nat) (w : World) (rh : RdI w h1 vh D (fun i => (hv i : Int))) (hh : h1 ≤ w.heap.size) (hD1 : 1 ≤ D) (hD : D ≤ 4) (hC : C ≤ 2) (hbd : ∀ k, k < D → hv k < D + 2) :
    Calls Try.prog 58 #[.int .i64 D, .int .i64 C, vh] w fun e w' => ∃ v', e = .returned v' ∧ OwnM w' w.heap.size w'.heap.size v' (D + C) (fun _ => D) (colW D hv) ∧ Below w.heap.size w w' := by
  have CD := dataWeights_any D vh hv h1 w rh hh hD1 hD hbd
  obtain ⟨aoh, caph, rfl, hmm, hch⟩ := rh
  have e136 : ((136 : Nat) : Int) = 136 := rfl
  obtain ⟨Q, hQ⟩ : ∃ Q, Q = D + C := ⟨_, rfl⟩
  have HQ : Hid (Q = D + C) := hQ
  have hQ6 : Q ≤ 6 := by omega
  clear hch hmm hQ
  go_enter Try.func58, Try.ntmps58
  go_wp2_with fail
  refine CD.mono ?_
  rintro e0 wD ⟨vD, rfl, rD, BD⟩
  obtain ⟨ao, cap, e, rfl, hm, hc, he⟩ := rD
  obtain ⟨b, off, rfl, hbw, hcell⟩ := hc (by omega)
  have HE : Hid (∀ i, i < D → Rd wD wD.heap.size (e i) D (dW D hv i)) := he
  have HC : Hid (∀ i, i < D → wD.cell? ⟨b, off + i, none⟩ = some (e i)) := hcell
  clear hc he hcell hm CD
  go_wp2_with (at_make; refine wp_makeM _ rfl _ _ rfl _ _ Q rfl rfl (by have := HQ.out; omega) (by have := HQ.out; omega) (by omega) ?_; intro w1 hown1 hb1 hz1)
  have E0 : OwnE w1 wD.heap.size w1.heap.size (.slice (some ⟨wD.heap.size, 0, none⟩) Q Q) Q (lenN D 0) (colW D hv) wD.heap.size Q (fun _ => nilS) := ownE_made hown1 (Nat.le_refl _) hz1 (fun i hi => by simp [lenN])
  clear hown1
  go_loopw [22] (fun i wr => ∃ k : Nat, k ≤ Q ∧ i = .int .i64 k ∧ ∃ e', OwnE wr wD.heap.size wr.heap.size (.slice (some ⟨wD.heap.size, 0, none⟩) Q Q) Q (lenN D k) (colW D hv) wD.heap.size Q e' ∧ Below wD.heap.size wD wr) (fun i _ => Q - (intOf i).toNat)
  case atStart => exact ⟨0, Nat.zero_le _, rfl, _, E0, hb1⟩
  case round =>
    clear E0 hb1 hz1
    obtain ⟨k, hk, rfl, e', hE, hb⟩ := hrel
    by_cases hlt : k < Q
    · have HOE : Hid (OwnE wr wD.heap.size wr.heap.size (.slice (some ⟨wD.heap.size, 0, none⟩) Q Q) Q (lenN D k) (colW D hv) wD.heap.size Q e') := hE
      have HB : Hid (Below wD.heap.size wD wr) := hb
      have hlti : (k : Int) < (D : Int) + (C : Int) := by have := HQ.out; omega
      have szr := hb.size
      have hgr := hE.high
      clear hE hb
      go_wp2_with (at_make; refine wp_makeB _ rfl _ _ rfl _ _ D rfl rfl rfl rfl (by omega) ?_; intro w2 ho2 hb2 hz2; have q1 : w2.cell? ⟨wD.heap.size, k, none⟩ = some (e' k) := (HOE.out.below hb2 (Nat.le_refl _)).cell k hlt; have q2 : w2.frozen? ⟨wD.heap.size, k, none⟩ = false := (HOE.out.below hb2 (Nat.le_refl _)).frozen k)
      have e136 : ((136 : Nat) : Int) = 136 := rfl
      obtain ⟨wk, hwk⟩ : ∃ wk, wk = wr := ⟨_, rfl⟩
      rw [← hwk] at ho2 hb2 hz2 HOE HB szr hgr ⊢
      obtain ⟨row, hrow⟩ : ∃ row : Value, row = .slice (some ⟨wk.heap.size, 0, none⟩) D D := ⟨_, rfl⟩
      obtain ⟨E1, hE1k, ER⟩ : ∃ E1 : Nat → Value, E1 k = row ∧ OwnE (w2.setCell ⟨wD.heap.size, k, none⟩ (.slice (some ⟨wk.heap.size, 0, none⟩) D D)) wD.heap.size w2.heap.size (.slice (some ⟨wD.heap.size, 0, none⟩) Q Q) Q (lenN D (k + 1)) (sumM (colW D hv) (dW D hv) (genN D k 8) k 0) wD.heap.size Q E1 :=
        ⟨_, by simp [hrow], (HOE.out.below hb2 (Nat.le_refl _)).lay k hlt (n' := lenN D (k + 1)) (M' := sumM (colW D hv) (dW D hv) (genN D k 8) k 0) (lo2 := wk.heap.size) (hi2 := w2.heap.size) (by
          rw [show lenN D (k + 1) k = D by simp [lenN]]
          exact ho2.congr (fun i _ => by simp [sumM, mixN])) (Nat.le_refl _) hb2.size (fun j hj hne => by
          unfold lenN
          by_cases c : j < k
          · rw [if_pos c, if_pos (by omega)]
          · rw [if_neg c, if_neg (by omega)]) (fun j hj hne => by simp [sumM, hne])⟩
      have BA : Below wD.heap.size wD (w2.setCell ⟨wD.heap.size, k, none⟩ (.slice (some ⟨wk.heap.size, 0, none⟩) D D)) := (HB.out.trans (hb2.mono szr)).setCell (Nat.le_refl _) _
      obtain ⟨wA, hwA⟩ : ∃ wA, wA = w2.setCell ⟨wD.heap.size, k, none⟩ (.slice (some ⟨wk.heap.size, 0, none⟩) D D) := ⟨_, rfl⟩
      have hsA : wA.heap.size = w2.heap.size := by rw [hwA]; simp
      have CF := factorsFrom_any 8 D k 136 rfl (by omega) (by omega) (by have := HQ.out; omega) wA
      rw [e136] at CF
      rw [← hwA] at ER BA ⊢
      clear ho2 hb2 q1 q2 HOE HB hwk hwA
      refine CF.mono ?_
      rintro ee w3 ⟨v3, rfl, o3, b3⟩
      obtain ⟨gv, capv, hgv, h31, h32, h33, h34⟩ := o3.form (by omega)
      subst hgv
      have s3 := b3.size
      rw [hsA] at o3 h31 s3
      have E3 := ER.below b3 (by omega)
      have B3 : Below wD.heap.size wD w3 := BA.trans (b3.mono (by omega))
      clear CF b3 ER BA
      go_wp2
      go_loopw [34] (fun i wr => ∃ m : Nat, m ≤ D ∧ i = .int .i64 m ∧ OwnE wr wD.heap.size w2.heap.size (.slice (some ⟨wD.heap.size, 0, none⟩) Q Q) Q (lenN D (k + 1)) (sumM (colW D hv) (dW D hv) (genN D k 8) k m) wD.heap.size Q E1 ∧ Own wr w2.heap.size w3.heap.size (.slice (some ⟨gv, 0, none⟩) D capv) D (genN D k 8) ∧ Below wD.heap.size wD wr ∧ w3.heap.size ≤ wr.heap.size) (fun i _ => D - (intOf i).toNat)
      case atStart => exact ⟨0, Nat.zero_le _, rfl, E3, o3, B3, Nat.le_refl _⟩
      case round =>
        clear E3 o3 B3
        obtain ⟨m, hm', rfl, hE, ho, hb, hsz⟩ := hrel
        by_cases hmR : m < D
        · obtain ⟨y, hy⟩ : ∃ y, y = genN D k 8 m := ⟨_, rfl⟩
          have hyl : y < 256 := by rw [hy]; exact genN_lt D k 8 m
          have c1 : wr.cell? ⟨wD.heap.size, k, none⟩ = some (.slice (some ⟨wk.heap.size, 0, none⟩) D D) := by rw [← hrow, ← hE1k]; exact hE.cell k hlt
          have c2 : wr.cell? ⟨b, off + m, none⟩ = some (e m) := (hb.cell (p := ⟨b, off + m, none⟩) hbw).trans (HC.out m hmR)
          have c3 : wr.cell? ⟨gv, m, none⟩ = some (.int .u8 y) := by rw [hy]; exact (ho.1.cellAt m (by omega)).trans (cellsOf_get _ _ _ hmR)
          have ok : Own wr wD.heap.size w2.heap.size (.slice (some ⟨wk.heap.size, 0, none⟩) D D) D (mixN (dW D hv) (genN D k 8) m) := by
            have := hE.each k hlt
            rw [hE1k, hrow, show lenN D (k + 1) k = D by simp [lenN], show sumM (colW D hv) (dW D hv) (genN D k 8) k m k = mixN (dW D hv) (genN D k 8) m by simp [sumM]] at this
            exact this
          have rm : Rd wr wD.heap.size (e m) D (dW D hv m) := (HE.out m hmR).below hb (Nat.le_refl _)
          have CA := addScaled_any (.slice (some ⟨wk.heap.size, 0, none⟩) D D) (e m) D (mixN (dW D hv) (genN D k 8) m) (dW D hv m) (mixN (dW D hv) (genN D k 8) (m + 1)) y wk.heap.size (wk.heap.size + 1) wD.heap.size (wr.drewN 1) (ok.tight.drewN 1) (by show wk.heap.size + 1 ≤ wr.heap.size; omega) rm (by omega) (by show wD.heap.size ≤ wr.heap.size; omega) (mixN_lt (dW D hv) _ (genN_lt D k 8) m) (dW_byt D hv m) hyl (fun i _ => by rw [hy]; rfl) (by omega)
          have HOE : Hid (OwnE wr wD.heap.size w2.heap.size (.slice (some ⟨wD.heap.size, 0, none⟩) Q Q) Q (lenN D (k + 1)) (sumM (colW D hv) (dW D hv) (genN D k 8) k m) wD.heap.size Q E1) := hE
          have HO : Hid (Own wr w2.heap.size w3.heap.size (.slice (some ⟨gv, 0, none⟩) D capv) D (genN D k 8)) := ho
          have HOK : Hid (Own wr wD.heap.size w2.heap.size (.slice (some ⟨wk.heap.size, 0, none⟩) D D) D (mixN (dW D hv) (genN D k 8) m)) := ok
          have HBL : Hid (Below wD.heap.size wD wr) := hb
          obtain ⟨x, hx⟩ : ∃ x, x = e m := ⟨_, rfl⟩
          rw [← hx] at c2 CA rm
          obtain ⟨aox, capx, hsx, _, _⟩ := rm
          subst hsx
          have HE1 : Hid (E1 k = row) := hE1k
          have HRW : Hid (row = .slice (some ⟨wk.heap.size, 0, none⟩) D D) := hrow
          clear hE ho hb ok hx hy hE1k hrow
          go_wp2
          go_region_with (go_at_call 56; refine CA.mono ?_; rintro ee w7 ⟨rfl, o7, ch7⟩)
          all_goals
            have E7 := (HOE.out.drewN 1).updN (M' := sumM (colW D hv) (dW D hv) (genN D k 8) k (m + 1)) k hlt (by rw [HE1.out, HRW.out]; exact ch7) (by
              rw [HE1.out, HRW.out, show lenN D (k + 1) k = D by simp [lenN], show sumM (colW D hv) (dW D hv) (genN D k 8) k (m + 1) k = mixN (dW D hv) (genN D k 8) (m + 1) by simp [sumM]]
              exact HOK.out.untight o7) (fun j hj hne => by simp [sumM, hne])
            have O7 : Own w7 w2.heap.size w3.heap.size (.slice (some ⟨gv, 0, none⟩) D capv) D (genN D k 8) := (HO.out.drewN 1).chg ch7 (.inr (by omega))
            have B7 : Below wD.heap.size wD w7 := (below_drewN HBL.out 1).trans (ch7.below (by omega) HBL.out.size)
            have S7 : w3.heap.size ≤ w7.heap.size := Nat.le_trans hsz ch7.size
            have q5 := HE1.out
            have q6 := HRW.out
            clear o7 ch7 HOE HO HBL HOK CA c1 c2 c3
            go_wp2
            go_roundw
            case rel => exact ⟨m + 1, by omega, by go_num, E7, O7, B7, S7⟩
            case measure => simp [intOf]; omega
        · obtain rfl : m = D := by omega
          have E8 : OwnE wr wD.heap.size wr.heap.size (.slice (some ⟨wD.heap.size, 0, none⟩) Q Q) Q (lenN m (k + 1)) (colW m hv) wD.heap.size Q E1 := by
            have h9 := hE.weaken (hi' := wr.heap.size) (by omega)
            have e9 : sumM (colW m hv) (dW m hv) (genN m k 8) k m = colW m hv := by
              funext i
              unfold sumM
              by_cases c : i = k
              · rw [if_pos c, c]; rfl
              · rw [if_neg c]
            rw [e9] at h9
            exact h9
          clear hE ho
          go_wp2
          go_roundw
          case rel => exact ⟨k + 1, by omega, by go_num, E1, E8, hb⟩
          case measure => simp [intOf]; omega
    · have hlti : ¬ ((k : Int) < (D : Int) + (C : Int)) := by have := HQ.out; omega
      obtain rfl : k = Q := by omega
      have E9 := hE.congrN (n' := fun _ => D) (fun i hi => by simp [lenN, hi])
      clear hE
      go_wp2
      go_ret
      refine ⟨_, rfl, ?_, BD.trans (hb.mono BD.size)⟩
      rw [← HQ.out]
      exact OwnM.weaken ⟨_, _, _, E9⟩ BD.size (Nat.le_refl _)
end Go.Proofs.Ytoadjpacchhleaj
