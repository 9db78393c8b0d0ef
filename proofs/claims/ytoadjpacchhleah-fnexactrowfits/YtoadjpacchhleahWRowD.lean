/- Walks of the specification's l2Join, RowFits. -/
import Derived.Test.YtoadjpacchhleahWRowC
namespace Go.Proofs.Ytoadjpacchhleah
open Go.RowKit F256
set_option linter.unusedVariables false
set_option linter.unusedSimpArgs false

/-- blocks of four, one behind the other -/
def joinN (f : Mat) : Nat → Nat := fun t => f (t / 4) (t % 4)
theorem joinN_at (f : Mat) (k i : Nat) (hi : i < 4) : joinN f (4 * k + i) = f k i := by
  unfold joinN
  rw [show (4 * k + i) / 4 = k by omega, show (4 * k + i) % 4 = i by omega]
theorem undrewD {B : Nat} {w w2 : World} {m : Nat} (h : Below B (w.drewN m) w2) : Below B w w2 := ⟨h.os, h.tape, h.output, h.size, h.block⟩

set_option maxHeartbeats 1000000 in
theorem l2Join_any (v : Value) (R : Nat) (n : Nat → Nat) (f : Mat) (h1 : Nat) (w : World) (r : RdM w h1 v R n f) (hh : h1 ≤ w.heap.size) (hR : R ≤ 1000) (h4 : ∀ i, i < R → n i = 4) :
    Calls Try.prog 54 #[v] w fun e w' => ∃ v', e = .returned v' ∧ Own w' w.heap.size w'.heap.size v' (4 * R) (joinN f) ∧ Below w.heap.size w w' := by
  obtain ⟨ao, cap, e, rfl, hm, hc, he⟩ := r
  have HE : Hid (∀ i, i < R → Rd w h1 (e i) 4 (f i)) := fun i hi => by have := he i hi; rw [h4 i hi] at this; exact this
  clear he h4
  go_enter Try.func54, Try.ntmps54
  go_wp2
  go_loopw [3, 4] (fun u i wr => ∃ k : Nat, k ≤ R ∧ i = .int .i64 k ∧ Own wr w.heap.size wr.heap.size u (4 * k) (joinN f) ∧ Below w.heap.size w wr) (fun _ i _ => R - (intOf i).toNat)
  case atStart => exact ⟨0, Nat.zero_le _, rfl, own_lit0 w _, (Below.refl _ _).alloc (Nat.le_refl _) _⟩
  case round =>
    obtain ⟨k, hk, rfl, hown, hb⟩ := hrel
    by_cases hlt : k < R
    · obtain ⟨b, off, rfl, hblt, hcell⟩ := hc (by omega)
      have hck : wr.cell? ⟨b, off + k, none⟩ = some (e k) := (hb.cell (p := ⟨b, off + k, none⟩) (by show b < w.heap.size; omega)).trans (hcell k hlt)
      have rk : Rd wr h1 (e k) 4 (f k) := (HE.out k hlt).below hb hh
      obtain ⟨x, hx⟩ : ∃ x, x = e k := ⟨_, rfl⟩
      rw [← hx] at hck rk
      have HRK : Hid (Rd wr h1 x 4 (f k)) := rk
      obtain ⟨aox, capx, hxs, _, _⟩ := rk
      subst hxs
      have HO : Hid (Own wr w.heap.size wr.heap.size u3 (4 * k) (joinN f)) := hown
      have HB : Hid (Below w.heap.size w wr) := hb
      have hsz := hb.size
      have hm4 : 4 * k + 4 ≤ 1000000 := by omega
      clear hc hcell hown hb hx
      go_wp2_with (at_builtin; refine wp_appendX rfl (.tmp 12) (.tmp 16) rfl w.heap.size wr.heap.size u3 (4 * k) (joinN f) ?_ HO.out h1 (.slice aox 4 capx) 4 (f k) ?_ HRK.out (by omega) (fun i hi => joinN_at f k i hi) hm4 hsz ?_; (simp [Act.eval]); (simp [Act.eval]); intro v2 w2 ho2 hg2)
      have R2 : Below w.heap.size w w2 := HB.out.grown hg2 hsz (fun q hq => (HO.out.1.lt q hq).1)
      have e4 : 4 * k + 4 = 4 * (k + 1) := by omega
      rw [e4] at ho2
      clear hg2 HO HB HRK
      go_wp2
      go_roundw
      case rel => exact ⟨k + 1, by omega, by go_num, ho2, R2⟩
      case measure => simp [intOf]; omega
    · obtain rfl : k = R := by omega
      go_wp2
      go_ret
      exact ⟨_, rfl, hown, hb⟩

/-- the blocks of a row fit -/
def FitsP (d s : Int) (R : Nat) (n : Nat → Nat) (f : Mat) : Prop := Shp d s ∧ WholeP R n (d + s) ∧ ∀ i, i < R → ∀ j, j < 4 → f i j = encN d.toNat (joinN f) i j

set_option maxHeartbeats 4000000 in
theorem specFits_any (d s : Int) (v : Value) (R : Nat) (n : Nat → Nat) (f : Mat) (l1 h1 : Nat) (w : World) (o1 : OwnM w l1 h1 v R n f) (hh : h1 ≤ w.heap.size) (kf : Byt f) :
    Calls Try.prog 33 #[.int .i64 d, .int .i64 s, v] w (BoolP (FitsP d s R n f) w) := by
  obtain ⟨gA, cA, e, r1⟩ := o1
  obtain rfl := r1.val
  have hcA : R ≤ cA := by
    rcases r1.row.2 with ⟨h, _⟩ | ⟨g, cap, cur, h, _, _, hle, _⟩
    · cases h
    · cases h; exact hle
  have hmR : R ≤ maxLen := by obtain ⟨_, _, _, _, h, _⟩ := r1.rd; exact h
  unfold maxLen at hmR
  have HA : Hid (OwnE w l1 h1 (.slice (some ⟨gA, 0, none⟩) R cA) R n f gA cA e) := r1
  have hgw : gA < w.heap.size := by have := r1.high; omega
  clear r1
  have CW := fun (w1 : World) (b : Below w.heap.size w w1) (N : Int) => l2Whole_any _ R n f h1 N w1 (HA.out.rd.below b hh)
  by_cases hsh : Shp d s
  · have HSH : Hid (Shp d s) := hsh
    obtain ⟨q1, q2, q3, q4⟩ := hsh
    obtain ⟨D, rfl⟩ : ∃ D : Nat, d = D := ⟨d.toNat, by omega⟩
    obtain ⟨S, rfl⟩ : ∃ S : Nat, s = S := ⟨s.toNat, by omega⟩
    by_cases hwh : WholeP R n ((D : Int) + (S : Int))
    · have HWH : Hid (WholeP R n ((D : Int) + (S : Int))) := hwh
      have hRD0 : R = D + S := by have := hwh.2; omega
      have HRD : Hid (R = D + S) := hRD0
      have hDR : D ≤ R := by omega
      have hR5 : R ≤ 5 := by omega
      clear hwh hRD0
      go_enter Try.func33, Try.ntmps33
      go_wp2_with fail
      refine (l2Shape_any D S _).mono ?_
      rintro e0 w1 ⟨b1, rfl, hb1, B1⟩
      obtain rfl : b1 = true := hb1.mpr HSH.out
      clear hb1
      go_wp2_with fail
      refine (CW _ B1 _).mono ?_
      rintro e0 w2 ⟨b2, rfl, hb2, b2'⟩
      obtain rfl : b2 = true := hb2.mpr HWH.out
      clear hb2
      have B2 : Below w.heap.size w w2 := B1.trans (b2'.mono B1.size)
      clear B1 b2'
      have hD0 : D ≠ 0 := by omega
      have rP : RdM w2 w.heap.size (.slice (some ⟨gA, 0, none⟩) D cA) D n f := ⟨_, _, e, rfl, by unfold maxLen; omega, fun _ => ⟨gA, 0, rfl, hgw, fun i hi => by
        rw [Nat.zero_add]
        exact (B2.cell (p := ⟨gA, i, none⟩) hgw).trans (HA.out.cell i (by omega))⟩, fun i hi => by
        obtain ⟨aoi, capi, hsi, hmi, hci⟩ := ((HA.out.each i (by omega)).below B2 hh).rd
        exact ⟨aoi, capi, hsi, hmi, fun h0 => by
          obtain ⟨b, off, h1, h2, h3⟩ := hci h0
          exact ⟨b, off, h1, by omega, h3⟩⟩⟩
      have CJ := l2Join_any _ D n f w.heap.size w2 rP B2.size (by omega) (fun i hi => HWH.out.1 i (by omega))
      have tD0 : (D : Int) ≤ (cA : Int) := by omega
      clear rP
      go_wp2_with fail
      refine CJ.mono ?_
      rintro ee w3 ⟨v3, rfl, o3, b3⟩
      obtain ⟨ao3, cap3, rfl⟩ := o3.slice
      have CE := l2Encode_any D S (by omega) (by omega) (by omega) _ (joinN f) _ w3 o3.rd (fun ao cap h => by
        cases h
        obtain ⟨g, cap, hv, _, _, _, hle⟩ := o3.form (by omega)
        cases hv
        omega) (Nat.le_refl _) (fun i => kf _ _)
      have B3 : Below w.heap.size w w3 := B2.trans (b3.mono B2.size)
      clear b3 B2 CJ o3 CW
      go_wp2_with fail
      refine CE.mono ?_
      rintro ee w4 ⟨v4, rfl, om, b4⟩
      obtain ⟨gW, cW, eW, hW⟩ := om
      have hv := hW.val
      subst hv
      have HW : Hid (OwnE w4 w3.heap.size w4.heap.size (.slice (some ⟨gW, 0, none⟩) (D + S) cW) (D + S) (fun _ => 4) (encN D (joinN f)) gW cW eW) := hW
      have hgW := hW.high
      have s3 := B3.size
      have B4 : Below w.heap.size w w4 := B3.trans (b4.mono s3)
      have HB4 : Hid (Below w.heap.size w w4) := B4
      have s4 := B4.size
      clear b4 B3 CE hW B4
      go_wp2
      go_loopw [8] (fun i wr => ∃ k : Nat, k ≤ R ∧ i = .int .i64 k ∧ (∀ i, i < k → ∀ j, j < 4 → f i j = encN D (joinN f) i j) ∧ Below w4.heap.size w4 wr) (fun i _ => R - (intOf i).toNat)
      case atStart => exact ⟨0, Nat.zero_le _, rfl, fun i hi => by omega, Below.refl _ _⟩
      case round =>
        obtain ⟨k, hk, rfl, hall, hb⟩ := hrel
        have HALL : Hid (∀ i, i < k → ∀ j, j < 4 → f i j = encN D (joinN f) i j) := hall
        have HB : Hid (Below w4.heap.size w4 wr) := hb
        have hB : Below w.heap.size w wr := HB4.out.trans (hb.mono s4)
        by_cases hlt : k < R
        · have c1 : wr.cell? ⟨gA, k, none⟩ = some (e k) := (hB.cell (p := ⟨gA, k, none⟩) hgw).trans (HA.out.cell k hlt)
          have c2 : wr.cell? ⟨gW, k, none⟩ = some (eW k) := (hb.cell (p := ⟨gW, k, none⟩) hgW).trans (HW.out.cell k (by have := HRD.out; omega))
          have r1 := ((HA.out.each k hlt).below hB hh).rd
          have r2 := ((HW.out.each k (by have := HRD.out; omega)).below hb (Nat.le_refl _)).rd
          rw [HWH.out.1 k hlt] at r1
          obtain ⟨x1, hx1⟩ : ∃ x, x = e k := ⟨_, rfl⟩
          obtain ⟨x2, hx2⟩ : ∃ x, x = eW k := ⟨_, rfl⟩
          rw [← hx1] at c1 r1
          rw [← hx2] at c2 r2
          have HR1 : Hid (Rd wr h1 x1 4 (f k)) := r1
          have HR2 : Hid (Rd wr w4.heap.size x2 4 (encN D (joinN f) k)) := r2
          obtain ⟨ao1, cap1, hq1, _, _⟩ := r1
          obtain ⟨ao2, cap2, hq2, _, _⟩ := r2
          subst hq1
          subst hq2
          have h4s : k < D + S := by have := HRD.out; omega
          have t4s : (k : Int) < (D : Int) + (S : Int) := by omega
          clear hx1 hx2 hall hb hB
          by_cases hsm : SameP 4 4 (f k) (encN D (joinN f) k)
          · have HSM : Hid (SameP 4 4 (f k) (encN D (joinN f) k)) := hsm
            clear hsm
            go_wp2
            go_region_with (go_at_call 55; refine (l2Same_any _ _ 4 4 (f k) (encN D (joinN f) k) h1 w4.heap.size _ ?_ ?_).mono ?_; exact HR1.out; exact HR2.out; rintro ee w5 ⟨bb, rfl, hbb, b5⟩; obtain rfl : bb = true := hbb.mpr HSM.out)
            all_goals
              have R5 : Below w4.heap.size w4 w5 := HB.out.trans ((undrewD b5).mono HB.out.size)
              clear b5 hbb c1 c2
              go_wp2
              go_roundw
              case rel => exact ⟨k + 1, by omega, by go_num, fun i hi j hj => by
                            by_cases c : i = k
                            · rw [c]; exact HSM.out.2 j hj
                            · exact HALL.out i (by omega) j hj, R5⟩
              case measure => simp [intOf]; omega
          · have HSM : Hid (¬ SameP 4 4 (f k) (encN D (joinN f) k)) := hsm
            clear hsm
            go_wp2
            go_region_with (go_at_call 55; refine (l2Same_any _ _ 4 4 (f k) (encN D (joinN f) k) h1 w4.heap.size _ ?_ ?_).mono ?_; exact HR1.out; exact HR2.out; rintro ee w5 ⟨bb, rfl, hbb, b5⟩; obtain rfl : bb = false := by (cases bb with | false => rfl | true => exact absurd (hbb.mp rfl) HSM.out))
            all_goals
              have R5 : Below w4.heap.size w4 w5 := HB.out.trans ((undrewD b5).mono HB.out.size)
              clear b5 hbb c1 c2
              go_wp2
              go_ret
              exact boolNo rfl (fun h => HSM.out ⟨rfl, fun j hj => by have := h.2.2 k hlt j hj; rw [Int.toNat_natCast] at this; exact this⟩) (HB4.out.trans (R5.mono s4))
        · obtain rfl : k = R := by omega
          go_wp2
          go_ret
          exact boolYes rfl ⟨HSH.out, HWH.out, fun i hi j hj => by rw [Int.toNat_natCast]; exact HALL.out i hi j hj⟩ hB
    · have HWH : Hid (¬ WholeP R n ((D : Int) + (S : Int))) := hwh
      clear hwh
      go_enter Try.func33, Try.ntmps33
      go_wp2_with fail
      refine (l2Shape_any D S _).mono ?_
      rintro e0 w1 ⟨b1, rfl, hb1, B1⟩
      obtain rfl : b1 = true := hb1.mpr HSH.out
      clear hb1
      go_wp2_with fail
      refine (CW _ B1 _).mono ?_
      rintro e0 w2 ⟨b2, rfl, hb2, b2'⟩
      obtain rfl : b2 = false := by
        cases b2 with
        | false => rfl
        | true => exact absurd (hb2.mp rfl) HWH.out
      clear hb2
      have B2 : Below w.heap.size w w2 := B1.trans (b2'.mono B1.size)
      clear B1 b2' CW
      go_wp2
      go_ret
      exact boolNo rfl (fun h => HWH.out h.2.1) B2
  · have HSH : Hid (¬ Shp d s) := hsh
    clear hsh CW
    go_enter Try.func33, Try.ntmps33
    go_wp2_with fail
    refine (l2Shape_any d s _).mono ?_
    rintro e0 w1 ⟨b1, rfl, hb1, B1⟩
    obtain rfl : b1 = false := by
      cases b1 with
      | false => rfl
      | true => exact absurd (hb1.mp rfl) HSH.out
    clear hb1
    go_wp2
    go_ret
    exact boolNo rfl (fun h => HSH.out h.1) B1
end Go.Proofs.Ytoadjpacchhleah
