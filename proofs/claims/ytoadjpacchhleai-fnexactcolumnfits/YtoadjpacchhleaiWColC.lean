/- Walk of the specification's ColumnFits. -/
import Derived.Test.YtoadjpacchhleaiColDefs
import Derived.Test.YtoadjpacchhleaiWColA
namespace Go.Proofs.Ytoadjpacchhleai
open Go.RowKit F256
set_option linter.unusedVariables false
set_option linter.unusedSimpArgs false

theorem undrewC {B : Nat} {w w2 : World} {m : Nat} (h : Below B (w.drewN m) w2) : Below B w w2 := ⟨h.os, h.tape, h.output, h.size, h.block⟩

set_option maxHeartbeats 4000000 in
theorem specFitsC_any (v : Value) (R : Nat) (n : Nat → Nat) (f : Mat) (c : Int) (hcb : -9223372036854775808 ≤ c ∧ c ≤ 9223372036854775807) (l1 h1 : Nat) (w : World) (o1 : OwnM w l1 h1 v R n f) (hh : h1 ≤ w.heap.size) (kf : Byt f) (hN9 : n 0 ≤ 1000000000) (hR9 : R ≤ 1000000000) :
    Calls Try.prog 38 #[v, .int .i64 c] w (BoolP (CfP R n f c) w) := by
  obtain ⟨gA, cA, e, r1⟩ := o1
  obtain rfl := r1.val
  have hcA : R ≤ cA := by
    rcases r1.row.2 with ⟨h, _⟩ | ⟨g, cap, cur, h, _, _, hle, _⟩
    · cases h
    · cases h; exact hle
  have HA : Hid (OwnE w l1 h1 (.slice (some ⟨gA, 0, none⟩) R cA) R n f gA cA e) := r1
  have hgw : gA < w.heap.size := by have := r1.high; omega
  clear r1
  by_cases hc2 : 0 ≤ c ∧ c ≤ 2
  · have HC2 : Hid (0 ≤ c ∧ c ≤ 2) := hc2
    obtain ⟨C, rfl⟩ : ∃ C : Nat, c = C := ⟨c.toNat, by omega⟩
    have hC : C ≤ 2 := by omega
    have CL := l1In_yes (C : Int) 0 2 (by omega) (by omega)
    have CS := l3Shape_any ((R : Int) - (C : Int)) (C : Int)
    have wsub : IntKind.i64.wrap ((R : Int) - (C : Int)) = (R : Int) - (C : Int) := by rw [IntKind.wrap_i64]; omega
    clear hc2 hcb
    by_cases hsh : Shp3 ((R : Int) - (C : Int)) (C : Int)
    · have HSH : Hid (Shp3 ((R : Int) - (C : Int)) (C : Int)) := hsh
      obtain ⟨q1, q2, q3, q4⟩ := hsh
      obtain ⟨D, hD⟩ : ∃ D : Nat, D + C = R := ⟨R - C, by omega⟩
      have HD : Hid (D + C = R) := hD
      have hsubi : (R : Int) - (C : Int) = (D : Int) := by omega
      have HDR : Hid (R - C = D) := by show R - C = D; omega
      have hD1 : 1 ≤ D := by omega
      have hD4 : D ≤ 4 := by omega
      have hDR : D ≤ R := by omega
      have hDc : (D : Int) ≤ (cA : Int) := by omega
      have hD0 : D ≠ 0 := by omega
      rw [hsubi] at CS wsub
      clear hD
      have CE := fun (w1 : World) (b : Below w.heap.size w w1) => l3Even_any _ R n f h1 w1 (HA.out.rd.below b hh)
      by_cases hev : EvenP R n
      · have HEV : Hid (EvenP R n) := hev
        clear hev
        go_enter Try.func38, Try.ntmps38
        go_wp2_with fail
        refine (CL _).mono ?_
        rintro e0 w0 ⟨rfl, hw0⟩
        obtain rfl := hw0.symm
        clear CL
        go_wp2_with fail
        refine (CS _).mono ?_
        rintro e0 w1 ⟨b1, rfl, hb1, B1⟩
        obtain rfl : b1 = true := hb1.mpr (by rw [← hsubi]; exact HSH.out)
        clear hb1 CS
        go_wp2_with fail
        refine (CE _ B1).mono ?_
        rintro e0 w2 ⟨b2, rfl, hb2, b2'⟩
        obtain rfl : b2 = true := hb2.mpr HEV.out
        have B2 : Below w.heap.size w w2 := B1.trans (b2'.mono B1.size)
        have s2 := B2.size
        clear hb2 b2' B1 CE
        have rP : RdM w2 w.heap.size (.slice (some ⟨gA, 0, none⟩) D cA) D n f := ⟨_, _, e, rfl, by unfold maxLen; omega, fun _ => ⟨gA, 0, rfl, hgw, fun i hi => by
          rw [Nat.zero_add]
          exact (B2.cell (p := ⟨gA, i, none⟩) hgw).trans (HA.out.cell i (by omega))⟩, fun i hi => (((HA.out.each i (by omega)).below B2 hh).rd).mono hh⟩
        have CX := l3Encode_any _ D C (n 0) n f w.heap.size w2 rP s2 hD1 hD4 hC (fun i hi => HEV.out i (by omega)) hN9 kf
        obtain ⟨N, hN⟩ : ∃ N, N = n 0 := ⟨_, rfl⟩
        have HN : Hid (N = n 0) := hN
        rw [← hN] at CX
        clear rP hN
        go_wp2_with fail
        refine CX.mono ?_
        rintro ee w4 ⟨v4, rfl, om, b4⟩
        obtain ⟨gW, cW, eW, hW⟩ := om
        have hv := hW.val
        subst hv
        have HW : Hid (OwnE w4 w2.heap.size w4.heap.size (.slice (some ⟨gW, 0, none⟩) C cW) C (fun _ => N) (parN D f) gW cW eW) := hW
        have hgW := hW.high
        have HB4 : Hid (Below w.heap.size w w4) := B2.trans (b4.mono s2)
        have s4 : w.heap.size ≤ w4.heap.size := HB4.out.size
        clear b4 B2 CX hW
        go_wp2
        go_loopw [7] (fun i wr => ∃ k : Nat, k ≤ C ∧ i = .int .i64 k ∧ (∀ j, j < k → ∀ t, t < N → f (D + j) t = parN D f j t) ∧ Below w4.heap.size w4 wr) (fun i _ => C - (intOf i).toNat)
        case atStart => exact ⟨0, Nat.zero_le _, rfl, fun i hi => by omega, Below.refl _ _⟩
        case round =>
          obtain ⟨k, hk, rfl, hall, hb⟩ := hrel
          have HALL : Hid (∀ j, j < k → ∀ t, t < N → f (D + j) t = parN D f j t) := hall
          have HB : Hid (Below w4.heap.size w4 wr) := hb
          have hB : Below w.heap.size w wr := HB4.out.trans (hb.mono s4)
          by_cases hlt : k < C
          · obtain ⟨q, hq⟩ : ∃ q, q = D + k := ⟨_, rfl⟩
            have HQ : Hid (q = D + k) := hq
            have hqR : q < R := by have := HD.out; omega
            have wq : IntKind.i64.wrap ((D : Int) + (k : Int)) = (q : Int) := by rw [IntKind.wrap_i64]; omega
            have c1 : wr.cell? ⟨gA, q, none⟩ = some (e q) := (hB.cell (p := ⟨gA, q, none⟩) hgw).trans (HA.out.cell q hqR)
            have c2 : wr.cell? ⟨gW, k, none⟩ = some (eW k) := (hb.cell (p := ⟨gW, k, none⟩) hgW).trans (HW.out.cell k hlt)
            have r1 := ((HA.out.each q hqR).below hB hh).rd
            have r2 := ((HW.out.each k hlt).below hb (Nat.le_refl _)).rd
            rw [HEV.out q hqR, ← HN.out] at r1
            obtain ⟨x1, hx1⟩ : ∃ x, x = e q := ⟨_, rfl⟩
            obtain ⟨x2, hx2⟩ : ∃ x, x = eW k := ⟨_, rfl⟩
            rw [← hx1] at c1 r1
            rw [← hx2] at c2 r2
            have HR1 : Hid (Rd wr h1 x1 N (f q)) := r1
            have HR2 : Hid (Rd wr w4.heap.size x2 N (parN D f k)) := r2
            obtain ⟨ao1, cap1, hq1, _, _⟩ := r1
            obtain ⟨ao2, cap2, hq2, _, _⟩ := r2
            subst hq1
            subst hq2
            clear hx1 hx2 hall hb hB hq
            by_cases hsm : SameP N N (f q) (parN D f k)
            · have HSM : Hid (SameP N N (f q) (parN D f k)) := hsm
              clear hsm
              go_wp2
              go_region_with (go_at_call 69; refine (l2Same_any _ _ N N (f q) (parN D f k) h1 w4.heap.size _ ?_ ?_).mono ?_; exact HR1.out; exact HR2.out; rintro ee w5 ⟨bb, rfl, hbb, b5⟩; obtain rfl : bb = true := hbb.mpr HSM.out)
              all_goals
                have R5 : Below w4.heap.size w4 w5 := HB.out.trans ((undrewC b5).mono HB.out.size)
                clear b5 hbb c1 c2
                go_wp2
                go_roundw
                case rel => exact ⟨k + 1, by omega, by go_num, fun j hj t ht => by
                              by_cases cc : j = k
                              · rw [cc, ← HQ.out]; exact HSM.out.2 t ht
                              · exact HALL.out j (by omega) t ht, R5⟩
                case measure => simp [intOf]; omega
            · have HSM : Hid (¬ SameP N N (f q) (parN D f k)) := hsm
              clear hsm
              go_wp2
              go_region_with (go_at_call 69; refine (l2Same_any _ _ N N (f q) (parN D f k) h1 w4.heap.size _ ?_ ?_).mono ?_; exact HR1.out; exact HR2.out; rintro ee w5 ⟨bb, rfl, hbb, b5⟩; obtain rfl : bb = false := by (cases bb with | false => rfl | true => exact absurd (hbb.mp rfl) HSM.out))
              all_goals
                have R5 : Below w4.heap.size w4 w5 := HB.out.trans ((undrewC b5).mono HB.out.size)
                clear b5 hbb c1 c2
                go_wp2
                go_ret
                exact boolNo rfl (fun h => HSM.out ⟨rfl, fun t ht => by
                  have := h.2.2.2 k (by rw [Int.toNat_natCast]; exact hlt) t (by rw [← HN.out]; exact ht)
                  rw [Int.toNat_natCast, HDR.out, ← HQ.out] at this
                  exact this⟩) (HB4.out.trans (R5.mono s4))
          · obtain rfl : k = C := by omega
            go_wp2
            go_ret
            exact boolYes rfl ⟨HC2.out, HSH.out, HEV.out, fun j hj t ht => by
              rw [Int.toNat_natCast] at hj ⊢
              rw [HDR.out]
              exact HALL.out j hj t (by rw [HN.out]; exact ht)⟩ hB
      · have HEV : Hid (¬ EvenP R n) := hev
        clear hev
        go_enter Try.func38, Try.ntmps38
        go_wp2_with fail
        refine (CL _).mono ?_
        rintro e0 w0 ⟨rfl, hw0⟩
        obtain rfl := hw0.symm
        clear CL
        go_wp2_with fail
        refine (CS _).mono ?_
        rintro e0 w1 ⟨b1, rfl, hb1, B1⟩
        obtain rfl : b1 = true := hb1.mpr (by rw [← hsubi]; exact HSH.out)
        clear hb1 CS
        go_wp2_with fail
        refine (CE _ B1).mono ?_
        rintro e0 w2 ⟨b2, rfl, hb2, b2'⟩
        obtain rfl : b2 = false := by
          cases b2 with
          | false => rfl
          | true => exact absurd (hb2.mp rfl) HEV.out
        have B2 : Below w.heap.size w w2 := B1.trans (b2'.mono B1.size)
        clear hb2 b2' B1 CE
        go_wp2
        go_ret
        exact boolNo rfl (fun h => HEV.out h.2.2.1) B2
    · have HSH : Hid (¬ Shp3 ((R : Int) - (C : Int)) (C : Int)) := hsh
      clear hsh
      go_enter Try.func38, Try.ntmps38
      go_wp2_with fail
      refine (CL _).mono ?_
      rintro e0 w0 ⟨rfl, hw0⟩
      obtain rfl := hw0.symm
      clear CL
      go_wp2_with fail
      refine (CS _).mono ?_
      rintro e0 w1 ⟨b1, rfl, hb1, B1⟩
      obtain rfl : b1 = false := by
        cases b1 with
        | false => rfl
        | true => exact absurd (hb1.mp rfl) HSH.out
      clear hb1 CS
      go_wp2
      go_ret
      exact boolNo rfl (fun h => HSH.out h.2.1) B1
  · have HC2 : Hid (¬ (0 ≤ c ∧ c ≤ 2)) := hc2
    have CL := l1In_no c 0 2 (by omega)
    clear hc2
    go_enter Try.func38, Try.ntmps38
    go_wp2_with fail
    refine (CL _).mono ?_
    rintro e0 w0 ⟨rfl, hw0⟩
    obtain rfl := hw0.symm
    clear CL
    go_wp2
    go_ret
    exact boolNo rfl (fun h => HC2.out h.1) (Below.refl _ _)
end Go.Proofs.Ytoadjpacchhleai
