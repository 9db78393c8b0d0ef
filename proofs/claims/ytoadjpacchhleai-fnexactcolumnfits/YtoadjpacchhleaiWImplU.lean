/- Walks of the program's AddShare, of slices.Equal over bytes and of ColumnFits. -/
import Derived.Test.YtoadjpacchhleaiWImplL
import Derived.Test.YtoadjpacchhleaiWJoin
import Derived.BigQuiet
import Derived.Deep.QuietTactic
namespace Go.Proofs.Ytoadjpacchhleai
open Go.RowKit F256
set_option linter.unusedVariables false
set_option linter.unusedSimpArgs false

set_option maxHeartbeats 1000000 in
theorem equalB_any (v1 v2 : Value) (n m : Nat) (f g : Nat → Nat) (h1 h2 : Nat) (w : World) (r1 : Rd w h1 v1 n f) (r2 : Rd w h2 v2 m g) :
    Calls Try.prog 70 #[v1, v2] w (BoolP (SameP n m f g) w) := by
  obtain ⟨ao, cap, rfl, hm, hc⟩ := r1
  obtain ⟨ao2, cap2, rfl, hm2, hc2⟩ := r2
  unfold maxLen at hm hm2
  by_cases hnm : n = m
  · subst hnm
    go_enter Try.func70, Try.ntmps70
    go_wp2
    go_loopw [13] (fun i wr => ∃ k : Nat, k ≤ n ∧ i = .int .i64 k ∧ (∀ i, i < k → f i = g i) ∧ ∃ m, wr = w.drewN m) (fun i _ => n - (intOf i).toNat)
    case atStart => exact ⟨0, Nat.zero_le _, rfl, fun i hi => by omega, 0, rfl⟩
    case round =>
      obtain ⟨k, hk, rfl, hall, q, rfl⟩ := hrel
      have HALL : Hid (∀ i, i < k → f i = g i) := hall
      clear hall
      by_cases hlt : k < n
      · obtain ⟨b, off, rfl, hblt, hcell⟩ := hc (by omega)
        obtain ⟨b2, off2, rfl, hblt2, hcell2⟩ := hc2 (by omega)
        have hck : w.cell? ⟨b, off + k, none⟩ = some (.int .u8 (f k)) := hcell k hlt
        have hck2 : w.cell? ⟨b2, off2 + k, none⟩ = some (.int .u8 (g k)) := hcell2 k hlt
        obtain ⟨x, hx⟩ : ∃ x, x = f k := ⟨_, rfl⟩
        obtain ⟨y, hy⟩ : ∃ y, y = g k := ⟨_, rfl⟩
        have HX : Hid (x = f k) := hx
        have HY : Hid (y = g k) := hy
        rw [← hx] at hck
        rw [← hy] at hck2
        clear hc hc2 hcell hcell2 hx hy
        by_cases heq : x = y
        · subst heq
          go_wp2
          go_quiet (fail)
          go_wp2
          go_roundw
          case rel => exact ⟨k + 1, by omega, by go_num, fun i hi => by
                        by_cases c : i = k
                        · rw [c, ← HX.out, ← HY.out]
                        · exact HALL.out i (by omega), _, rfl⟩
          case measure => simp [intOf]; omega
        · have tn : ((x : Int) != (y : Int)) = true := by simp; omega
          go_wp2
          go_quiet (fail)
          go_wp2
          go_ret
          exact boolNo rfl (fun h => absurd (h.2 k hlt) (by rw [← HX.out, ← HY.out]; exact heq)) (below_drewN (below_drewN (Below.refl _ _) _) _)
      · have hkn : k = n := by omega
        subst hkn
        go_wp2
        go_ret
        exact boolYes rfl ⟨rfl, HALL.out⟩ (below_drewN (Below.refl _ _) _)
  · have tn : ((n : Int) != (m : Int)) = true := by simp; omega
    clear hc hc2
    go_enter Try.func70, Try.ntmps70
    go_wp2
    go_ret
    exact boolNo rfl (fun h => hnm h.1) (Below.refl _ _)

set_option maxHeartbeats 4000000 in
theorem implFitsC_any (v : Value) (R : Nat) (n : Nat → Nat) (f : Mat) (c : Int) (h1 : Nat) (w : World) (r : RdM w h1 v R n f) (hcap : ∃ ao cap, v = .slice ao R cap ∧ R ≤ cap) (hh : h1 ≤ w.heap.size) (kf : Byt f) (hcb : -9223372036854775808 ≤ c ∧ c ≤ 9223372036854775807) (hN9 : n 0 ≤ 1000000000) (hR9 : R ≤ 1000000000) :
    Calls Try.prog 39 #[v, .int .i64 c] w (BoolP (CfP R n f c) w) := by
  have HR : Hid (RdM w h1 v R n f) := r
  obtain ⟨ao, cap, e, rfl, hm, hc, he⟩ := r
  obtain ⟨ao', cap', heq, hcap⟩ := hcap
  simp only [Value.slice.injEq, true_and] at heq
  obtain ⟨rfl, rfl⟩ := heq
  unfold maxLen at hm
  have HE : Hid (∀ i, i < R → Rd w h1 (e i) (n i) (f i)) := he
  have HC : Hid (R ≠ 0 → ∃ b off, ao = some ⟨b, off, none⟩ ∧ b < h1 ∧ ∀ i, i < R → w.cell? ⟨b, off + i, none⟩ = some (e i)) := hc
  clear hc he
  by_cases hc2 : 0 ≤ c ∧ c ≤ 2
  · have HC2 : Hid (0 ≤ c ∧ c ≤ 2) := hc2
    obtain ⟨C, rfl⟩ : ∃ C : Nat, c = C := ⟨c.toNat, by omega⟩
    have hC : C ≤ 2 := by omega
    have CS := columnInBounds_any ((R : Int) - (C : Int)) (C : Int)
    have wsub : IntKind.i64.wrap ((R : Int) - (C : Int)) = (R : Int) - (C : Int) := by rw [IntKind.wrap_i64]; omega
    clear hc2 hcb
    by_cases hsh : Shp3 ((R : Int) - (C : Int)) (C : Int)
    · have HSH : Hid (Shp3 ((R : Int) - (C : Int)) (C : Int)) := hsh
      obtain ⟨q1, q2, q3, q4⟩ := hsh
      obtain ⟨D, hD⟩ : ∃ D : Nat, D + C = R := ⟨R - C, by omega⟩
      have HD : Hid (D + C = R) := hD
      have hsubi : (R : Int) - (C : Int) = (D : Int) := by omega
      have HDR : Hid (R - C = D) := by show R - C = D; omega
      have hD1 : 1 ≤ D := by omega
      have hD4 : D ≤ 4 := by omega
      have hDR : D ≤ R := by omega
      have hDc : (D : Int) ≤ (cap : Int) := by omega
      have hD0 : D ≠ 0 := by omega
      obtain ⟨b, off, hao, hblt, hcell⟩ := HC.out (by omega)
      subst hao
      have HCL : Hid (∀ i, i < R → w.cell? ⟨b, off + i, none⟩ = some (e i)) := hcell
      have hbw : b < w.heap.size := by omega
      rw [hsubi] at CS wsub
      clear hD hcell HC
      have CE := fun (w1 : World) (b' : Below w.heap.size w w1) => equallyLong_any (.slice (some ⟨b, off, none⟩) R cap) R n f h1 w1 (HR.out.below b' hh)
      by_cases hev : EvenP R n
      · have HEV : Hid (EvenP R n) := hev
        clear hev
        go_enter Try.func39, Try.ntmps39
        go_wp2_with fail
        refine (CS _).mono ?_
        rintro e0 w1 ⟨b1, rfl, hb1, B1⟩
        obtain rfl : b1 = true := hb1.mpr (by rw [← hsubi]; exact HSH.out)
        clear hb1 CS
        go_wp2_with fail
        refine (CE _ B1).mono ?_
        rintro e0 w2 ⟨b2, rfl, hb2, b2'⟩
        obtain rfl : b2 = true := hb2.mpr HEV.out
        have B2 : Below w.heap.size w w2 := B1.trans (b2'.mono B1.size)
        have s2 := B2.size
        clear hb2 b2' B1 CE
        have rP : RdM w2 w.heap.size (.slice (some ⟨b, off, none⟩) D cap) D n f := ⟨_, _, e, rfl, by unfold maxLen; omega, fun _ => ⟨b, off, rfl, hbw, fun i hi => (B2.cell (p := ⟨b, off + i, none⟩) hbw).trans (HCL.out i (by omega))⟩, fun i hi => ((HE.out i (by omega)).below B2 hh).mono hh⟩
        have CX := parityOf_any _ D C (n 0) n f w.heap.size w2 rP s2 hD1 hD4 hC (fun i hi => HEV.out i (by omega)) hN9 kf
        obtain ⟨N, hN⟩ : ∃ N, N = n 0 := ⟨_, rfl⟩
        have HN : Hid (N = n 0) := hN
        rw [← hN] at CX
        clear rP hN
        go_wp2_with fail
        refine CX.mono ?_
        rintro ee w4 ⟨v4, rfl, om, b4⟩
        obtain ⟨gW, cW, eW, hW⟩ := om
        have hv := hW.val
        subst hv
        have HW : Hid (OwnE w4 w2.heap.size w4.heap.size (.slice (some ⟨gW, 0, none⟩) C cW) C (fun _ => N) (parN D f) gW cW eW) := hW
        have hgW := hW.high
        have HB4 : Hid (Below w.heap.size w w4) := B2.trans (b4.mono s2)
        have s4 : w.heap.size ≤ w4.heap.size := HB4.out.size
        clear b4 B2 CX hW
        go_wp2
        go_loopw [33] (fun i wr => ∃ k : Nat, k ≤ C ∧ i = .int .i64 k ∧ (∀ j, j < k → ∀ t, t < N → f (D + j) t = parN D f j t) ∧ Below w4.heap.size w4 wr) (fun i _ => C - (intOf i).toNat)
        case atStart => exact ⟨0, Nat.zero_le _, rfl, fun i hi => by omega, Below.refl _ _⟩
        case round =>
          obtain ⟨k, hk, rfl, hall, hb⟩ := hrel
          have HALL : Hid (∀ j, j < k → ∀ t, t < N → f (D + j) t = parN D f j t) := hall
          have HB : Hid (Below w4.heap.size w4 wr) := hb
          have hB : Below w.heap.size w wr := HB4.out.trans (hb.mono s4)
          by_cases hlt : k < C
          · obtain ⟨q, hq⟩ : ∃ q, q = D + k := ⟨_, rfl⟩
            have HQ : Hid (q = D + k) := hq
            have hqR : q < R := by have := HD.out; omega
            have wq : IntKind.i64.wrap ((D : Int) + (k : Int)) = (q : Int) := by rw [IntKind.wrap_i64]; omega
            have c1 : wr.cell? ⟨b, off + q, none⟩ = some (e q) := (hB.cell (p := ⟨b, off + q, none⟩) hbw).trans (HCL.out q hqR)
            have c2 : wr.cell? ⟨gW, k, none⟩ = some (eW k) := (hb.cell (p := ⟨gW, k, none⟩) hgW).trans (HW.out.cell k hlt)
            have r1 := (HE.out q hqR).below hB hh
            have r2 := ((HW.out.each k hlt).below hb (Nat.le_refl _)).rd
            rw [HEV.out q hqR, ← HN.out] at r1
            obtain ⟨x1, hx1⟩ : ∃ x, x = e q := ⟨_, rfl⟩
            obtain ⟨x2, hx2⟩ : ∃ x, x = eW k := ⟨_, rfl⟩
            rw [← hx1] at c1 r1
            rw [← hx2] at c2 r2
            have HR1 : Hid (Rd wr h1 x1 N (f q)) := r1
            have HR2 : Hid (Rd wr w4.heap.size x2 N (parN D f k)) := r2
            obtain ⟨ao1, cap1, hq1, _, _⟩ := r1
            obtain ⟨ao2, cap2, hq2, _, _⟩ := r2
            subst hq1
            subst hq2
            clear hx1 hx2 hall hb hB hq
            by_cases hsm : SameP N N (parN D f k) (f q)
            · have HSM : Hid (SameP N N (parN D f k) (f q)) := hsm
              clear hsm
              go_wp2
              go_region_with (go_at_call 70; refine (equalB_any _ _ N N (parN D f k) (f q) w4.heap.size h1 _ ?_ ?_).mono ?_; exact HR2.out; exact HR1.out; rintro ee w5 ⟨bb, rfl, hbb, b5⟩)
              all_goals
                obtain rfl : bb = true := hbb.mpr HSM.out
                have R5 : Below w4.heap.size w4 w5 := HB.out.trans ((undrewN' b5).mono HB.out.size)
                clear b5 hbb c1 c2
                go_wp2
                go_roundw
                case rel => exact ⟨k + 1, by omega, by go_num, fun j hj t ht => by
                              by_cases cc : j = k
                              · rw [cc, ← HQ.out]; exact (HSM.out.2 t ht).symm
                              · exact HALL.out j (by omega) t ht, R5⟩
                case measure => simp [intOf]; omega
            · have HSM : Hid (¬ SameP N N (parN D f k) (f q)) := hsm
              clear hsm
              go_wp2
              go_region_with (go_at_call 70; refine (equalB_any _ _ N N (parN D f k) (f q) w4.heap.size h1 _ ?_ ?_).mono ?_; exact HR2.out; exact HR1.out; rintro ee w5 ⟨bb, rfl, hbb, b5⟩; obtain rfl : bb = false := by (cases bb with | false => rfl | true => exact absurd (hbb.mp rfl) HSM.out))
              all_goals
                have R5 : Below w4.heap.size w4 w5 := HB.out.trans ((undrewN' b5).mono HB.out.size)
                clear b5 hbb c1 c2
                go_wp2
                go_ret
                exact boolNo rfl (fun h => HSM.out ⟨rfl, fun t ht => by
                  have := h.2.2.2 k (by rw [Int.toNat_natCast]; exact hlt) t (by rw [← HN.out]; exact ht)
                  rw [Int.toNat_natCast, HDR.out, ← HQ.out] at this
                  exact this.symm⟩) (HB4.out.trans (R5.mono s4))
          · obtain rfl : k = C := by omega
            go_wp2
            go_ret
            exact boolYes rfl ⟨HC2.out, HSH.out, HEV.out, fun j hj t ht => by
              rw [Int.toNat_natCast] at hj ⊢
              rw [HDR.out]
              exact HALL.out j hj t (by rw [HN.out]; exact ht)⟩ hB
      · have HEV : Hid (¬ EvenP R n) := hev
        clear hev
        go_enter Try.func39, Try.ntmps39
        go_wp2_with fail
        refine (CS _).mono ?_
        rintro e0 w1 ⟨b1, rfl, hb1, B1⟩
        obtain rfl : b1 = true := hb1.mpr (by rw [← hsubi]; exact HSH.out)
        clear hb1 CS
        go_wp2_with fail
        refine (CE _ B1).mono ?_
        rintro e0 w2 ⟨b2, rfl, hb2, b2'⟩
        obtain rfl : b2 = false := by
          cases b2 with
          | false => rfl
          | true => exact absurd (hb2.mp rfl) HEV.out
        have B2 : Below w.heap.size w w2 := B1.trans (b2'.mono B1.size)
        clear hb2 b2' B1 CE
        go_wp2
        go_ret
        exact boolNo rfl (fun h => HEV.out h.2.2.1) B2
    · have HSH : Hid (¬ Shp3 ((R : Int) - (C : Int)) (C : Int)) := hsh
      clear hsh HC
      go_enter Try.func39, Try.ntmps39
      go_wp2_with fail
      refine (CS _).mono ?_
      rintro e0 w1 ⟨b1, rfl, hb1, B1⟩
      obtain rfl : b1 = false := by
        cases b1 with
        | false => rfl
        | true => exact absurd (hb1.mp rfl) HSH.out
      clear hb1 CS
      go_wp2
      go_ret
      exact boolNo rfl (fun h => HSH.out h.2.1) B1
  · have HC2 : Hid (¬ (0 ≤ c ∧ c ≤ 2)) := hc2
    by_cases hneg : c < 0
    · clear hc2 HC
      go_enter Try.func39, Try.ntmps39
      go_wp2
      go_ret
      exact boolNo rfl (fun h => HC2.out h.1) (Below.refl _ _)
    · have hbig : 2 < c := by omega
      have tneg : decide (c < 0) = false := by simp; omega
      clear hc2 HC hneg
      go_enter Try.func39, Try.ntmps39
      go_wp2
      go_ret
      exact boolNo rfl (fun h => HC2.out h.1) (Below.refl _ _)
end Go.Proofs.Ytoadjpacchhleai
