/- Walks: marks of blocks and drives that are held. -/
import Derived.Test.YthdknhjaohhfiaaGreatZPlayreag
import Derived.Deep.RegionLaw
import Derived.Test.YthdknhjaohhfiaaGreatZPlayreac
import Derived.Test.YthdknhjaohhfiaaGreatZPlayreae
import Derived.Test.YthdknhjaohhfiaaGreatProg
import Derived.Test.YthdknhjaohhfiaaGreatZPlayreaa
import Derived.WalkLawsBesides
namespace Go.Proofs.YthdknhjaohhfiaaGreat
open Go.RowKit F256
set_option linter.unusedVariables false
set_option linter.unusedSimpArgs false
set_option maxHeartbeats 8000000 in
set_option maxRecDepth 20000 in
theorem heldBlockS_is : HdS (layBlock.slice 108) (cSl cBlockD) (mkSl cBlockD mkBlockD) 191 := fun v d hi j w h hhi hj => by
  obtain ⟨n, x⟩ := d
  obtain ⟨ao, cap, hv, hm, hc⟩ := h
  have hv' : v = .slice ao n cap := one_eq hv
  subst hv'
  clear hv
  have hj' : j + sumN (fun i => cBlockD (x i)) n ≤ 100000000 := hj
  have hm' : n ≤ maxLen := hm
  have hc' : n ≠ 0 → ∃ b off, ao = some ⟨b, off, none⟩ ∧ b < hi ∧ ∀ i, i < n → ∃ ce, layBlock.rd w hi (mkBlockD (j + sumN (fun i => cBlockD (x i)) i) (x i)) ce ∧ ∀ jj, jj < layBlock.sz → w.cell? ⟨b, off + (i * layBlock.sz + jj), none⟩ = ce[jj]? := hc
  clear hc hm hj
  unfold maxLen at hm'
  go_enter Tryz.func191, Tryz.ntmps191
  go_wp2
  go_loopw [1, 5] (fun y i wr => ∃ k : Nat, k ≤ n ∧ i = .int .i64 k ∧ y = .int .i64 ((j + sumN (fun i => cBlockD (x i)) k : Nat) : Int) ∧ Below w.heap.size w wr) (fun _ i _ => n - (intOf i).toNat)
  case atStart => exact ⟨0, Nat.zero_le _, rfl, rfl, Below.refl _ _⟩
  case round =>
    obtain ⟨k, hk, rfl, rfl, hb⟩ := hrel
    by_cases hlt : k < n
    · obtain ⟨b, off, rfl, hblt, hel⟩ := hc' (by omega)
      obtain ⟨ck, hrk, hcell⟩ := elem_rd (t := 0) (x := fun i => mkBlockD (j + sumN (fun i => cBlockD (x i)) i) (x i)) hel hb hhi hblt hlt
      have hs1 : sumN (fun i => cBlockD (x i)) (k + 1) ≤ sumN (fun i => cBlockD (x i)) n := sumN_mono _ (show k + 1 ≤ n from hlt)
      rw [sumN_succ] at hs1
      have hrk1 : layBlock.rd wr hi (mkBlockD (j + sumN (fun i => cBlockD (x i)) k) (x k)) ck := hrk
      clear hrk
      obtain ⟨J, hJ⟩ : ∃ J, J = j + sumN (fun i => cBlockD (x i)) k := ⟨_, rfl⟩
      have hJb : J + cBlockD (x k) ≤ 100000000 := by omega
      have HJ : Hid (J = j + sumN (fun i => cBlockD (x i)) k) := hJ
      rw [← hJ] at hrk1 ⊢
      clear hs1 hJ hc' hel
      have zr := hb.size
      unfold cBlockD at hJb
      obtain ⟨ao1, cap1, hck, r1, -⟩ := Block_rd hrk1
      subst hck
      clear hrk1
      have c0_0 : wr.cell? ⟨b, off + k * 2, none⟩ = some (.int .i64 ((J : Int))) := hcell 0 (by decide)
      have c0_1 : wr.cell? ⟨b, off + k * 2 + 1, none⟩ = some (.slice ao1 (x k).bytes.1 cap1) := hcell 1 (by decide)
      have R0_1 : Hid (layBytes.rd wr hi ((mkBytes (J + 1) (x k).bytes)) [.slice ao1 (x k).bytes.1 cap1]) := r1
      clear hcell r1
      have HB0 : Hid (Below w.heap.size w wr) := hb
      clear hb
      go_wp2_with fail
      refine (heldBytes_is _ (x k).bytes hi (J + 1) _ R0_1.out (by omega) (by omega)).mono ?_
      rintro e w1 ⟨rfl, b1⟩
      have z1 : wr.heap.size ≤ w1.heap.size := b1.size
      have hz1 : ¬ (((J + 1 + lenD (x k).bytes : Nat) : Int) < 0) := by omega
      have HB1 : Hid (Below w.heap.size w w1) := HB0.out.trans (b1.mono HB0.out.size)
      clear b1
      go_wp2_with fail
      go_roundw
      case rel =>
        exact ⟨k + 1, by omega, by go_num, val_eq (by
          have e1 := HJ.out
          have e2 : sumN (fun i => cBlockD (x i)) (k + 1) = sumN (fun i => cBlockD (x i)) k + cBlockD (x k) := rfl
          have e3 : cBlockD (x k) = 1 + lenD (x k).bytes := rfl
          omega), HB1.out⟩
      case measure => simp [intOf]; omega
    · obtain rfl : k = n := by omega
      go_wp2
      go_ret
      exact ⟨rfl, hb⟩
set_option maxHeartbeats 8000000 in
set_option maxRecDepth 20000 in
theorem heldDriveS_is : HdS (layDrive.slice 106) (cSl cDriveD) (mkSl cDriveD mkDriveD) 149 := fun v d hi j w h hhi hj => by
  obtain ⟨n, x⟩ := d
  obtain ⟨ao, cap, hv, hm, hc⟩ := h
  have hv' : v = .slice ao n cap := one_eq hv
  subst hv'
  clear hv
  have hj' : j + sumN (fun i => cDriveD (x i)) n ≤ 100000000 := hj
  have hm' : n ≤ maxLen := hm
  have hc' : n ≠ 0 → ∃ b off, ao = some ⟨b, off, none⟩ ∧ b < hi ∧ ∀ i, i < n → ∃ ce, layDrive.rd w hi (mkDriveD (j + sumN (fun i => cDriveD (x i)) i) (x i)) ce ∧ ∀ jj, jj < layDrive.sz → w.cell? ⟨b, off + (i * layDrive.sz + jj), none⟩ = ce[jj]? := hc
  clear hc hm hj
  unfold maxLen at hm'
  go_enter Tryz.func149, Tryz.ntmps149
  go_wp2
  go_loopw [1, 5] (fun y i wr => ∃ k : Nat, k ≤ n ∧ i = .int .i64 k ∧ y = .int .i64 ((j + sumN (fun i => cDriveD (x i)) k : Nat) : Int) ∧ Below w.heap.size w wr) (fun _ i _ => n - (intOf i).toNat)
  case atStart => exact ⟨0, Nat.zero_le _, rfl, rfl, Below.refl _ _⟩
  case round =>
    obtain ⟨k, hk, rfl, rfl, hb⟩ := hrel
    by_cases hlt : k < n
    · obtain ⟨b, off, rfl, hblt, hel⟩ := hc' (by omega)
      obtain ⟨ck, hrk, hcell⟩ := elem_rd (t := 0) (x := fun i => mkDriveD (j + sumN (fun i => cDriveD (x i)) i) (x i)) hel hb hhi hblt hlt
      have hs1 : sumN (fun i => cDriveD (x i)) (k + 1) ≤ sumN (fun i => cDriveD (x i)) n := sumN_mono _ (show k + 1 ≤ n from hlt)
      rw [sumN_succ] at hs1
      have hrk1 : layDrive.rd wr hi (mkDriveD (j + sumN (fun i => cDriveD (x i)) k) (x k)) ck := hrk
      clear hrk
      obtain ⟨J, hJ⟩ : ∃ J, J = j + sumN (fun i => cDriveD (x i)) k := ⟨_, rfl⟩
      have hJb : J + cDriveD (x k) ≤ 100000000 := by omega
      have HJ : Hid (J = j + sumN (fun i => cDriveD (x i)) k) := hJ
      rw [← hJ] at hrk1 ⊢
      clear hs1 hJ hc' hel
      have zr := hb.size
      unfold cDriveD at hJb
      obtain ⟨ao1, cap1, hck, r1⟩ := Drive_rd hrk1
      subst hck
      clear hrk1
      have c0_0 : wr.cell? ⟨b, off + k * 2, none⟩ = some (.bool (decide (J % 3 = 0))) := hcell 0 (by decide)
      have c0_1 : wr.cell? ⟨b, off + k * 2 + 1, none⟩ = some (.slice ao1 (x k).blocks.1 cap1) := hcell 1 (by decide)
      have R0_1 : Hid ((layBlock.slice 108).rd wr hi (((mkSl cBlockD mkBlockD) (J + 1) (x k).blocks)) [.slice ao1 (x k).blocks.1 cap1]) := r1
      clear hcell r1
      have hb3 : ((J : Int) % 3 == 0) = decide (J % 3 = 0) := b3_eq J
      have HB0 : Hid (Below w.heap.size w wr) := hb
      clear hb
      go_wp2_with fail
      refine (heldBlockS_is _ (x k).blocks hi (J + 1) _ R0_1.out (by omega) (by omega)).mono ?_
      rintro e w1 ⟨rfl, b1⟩
      have z1 : wr.heap.size ≤ w1.heap.size := b1.size
      have hz1 : ¬ (((J + 1 + (cSl cBlockD) (x k).blocks : Nat) : Int) < 0) := by omega
      have HB1 : Hid (Below w.heap.size w w1) := HB0.out.trans (b1.mono HB0.out.size)
      clear b1
      go_wp2_with fail
      go_roundw
      case rel =>
        exact ⟨k + 1, by omega, by go_num, val_eq (by
          have e1 := HJ.out
          have e2 : sumN (fun i => cDriveD (x i)) (k + 1) = sumN (fun i => cDriveD (x i)) k + cDriveD (x k) := rfl
          have e3 : cDriveD (x k) = 1 + (cSl cBlockD) (x k).blocks := rfl
          omega), HB1.out⟩
      case measure => simp [intOf]; omega
    · obtain rfl : k = n := by omega
      go_wp2
      go_ret
      exact ⟨rfl, hb⟩
set_option maxHeartbeats 8000000 in
set_option maxRecDepth 20000 in
theorem heldDriveSS_is : HdS ((layDrive.slice 106).slice 103) (cSl (cSl cDriveD)) (mkSl (cSl cDriveD) (mkSl cDriveD mkDriveD)) 99 := fun v d hi j w h hhi hj => by
  obtain ⟨n, x⟩ := d
  obtain ⟨ao, cap, hv, hm, hc⟩ := h
  have hv' : v = .slice ao n cap := one_eq hv
  subst hv'
  clear hv
  have hj' : j + sumN (fun i => (cSl cDriveD) (x i)) n ≤ 100000000 := hj
  have hm' : n ≤ maxLen := hm
  have hc' : n ≠ 0 → ∃ b off, ao = some ⟨b, off, none⟩ ∧ b < hi ∧ ∀ i, i < n → ∃ ce, (layDrive.slice 106).rd w hi ((mkSl cDriveD mkDriveD) (j + sumN (fun i => (cSl cDriveD) (x i)) i) (x i)) ce ∧ ∀ jj, jj < (layDrive.slice 106).sz → w.cell? ⟨b, off + (i * (layDrive.slice 106).sz + jj), none⟩ = ce[jj]? := hc
  clear hc hm hj
  unfold maxLen at hm'
  go_enter Tryz.func99, Tryz.ntmps99
  go_wp2
  go_loopw [1, 5] (fun y i wr => ∃ k : Nat, k ≤ n ∧ i = .int .i64 k ∧ y = .int .i64 ((j + sumN (fun i => (cSl cDriveD) (x i)) k : Nat) : Int) ∧ Below w.heap.size w wr) (fun _ i _ => n - (intOf i).toNat)
  case atStart => exact ⟨0, Nat.zero_le _, rfl, rfl, Below.refl _ _⟩
  case round =>
    obtain ⟨k, hk, rfl, rfl, hb⟩ := hrel
    by_cases hlt : k < n
    · obtain ⟨b, off, rfl, hblt, hel⟩ := hc' (by omega)
      obtain ⟨ck, hrk, hcell⟩ := elem_rd (t := 0) (x := fun i => (mkSl cDriveD mkDriveD) (j + sumN (fun i => (cSl cDriveD) (x i)) i) (x i)) hel hb hhi hblt hlt
      have hs1 : sumN (fun i => (cSl cDriveD) (x i)) (k + 1) ≤ sumN (fun i => (cSl cDriveD) (x i)) n := sumN_mono _ (show k + 1 ≤ n from hlt)
      rw [sumN_succ] at hs1
      have hrk1 : (layDrive.slice 106).rd wr hi ((mkSl cDriveD mkDriveD) (j + sumN (fun i => (cSl cDriveD) (x i)) k) (x k)) ck := hrk
      clear hrk
      obtain ⟨J, hJ⟩ : ∃ J, J = j + sumN (fun i => (cSl cDriveD) (x i)) k := ⟨_, rfl⟩
      have hJb : J + (cSl cDriveD) (x k) ≤ 100000000 := by omega
      have HJ : Hid (J = j + sumN (fun i => (cSl cDriveD) (x i)) k) := hJ
      rw [← hJ] at hrk1 ⊢
      clear hs1 hJ hc' hel
      have zr := hb.size
      obtain ⟨ao9, cap9, hck⟩ := sl_form hrk1
      subst hck
      have c0 : wr.cell? ⟨b, off + k, none⟩ = some (.slice ao9 (x k).1 cap9) := by
        have h := hcell 0 (show 0 < 1 by decide)
        rw [show (layDrive.slice 106).sz = 1 from rfl, Nat.mul_one, Nat.add_zero] at h
        exact h
      have R0 : Hid ((layDrive.slice 106).rd wr hi ((mkSl cDriveD mkDriveD) J (x k)) [.slice ao9 (x k).1 cap9]) := hrk1
      clear hrk1 hcell
      go_wp2_with fail
      refine (heldDriveS_is _ (x k) hi J _ R0.out (by omega) (by omega)).mono ?_
      rintro e w1 ⟨rfl, b1⟩
      have HB1 : Hid (Below w.heap.size w w1) := hb.trans (b1.mono hb.size)
      have hz : ¬ (((J + (cSl cDriveD) (x k) : Nat) : Int) < 0) := by omega
      clear b1 hb
      go_wp2_with fail
      go_roundw
      case rel =>
        exact ⟨k + 1, by omega, by go_num, val_eq (by
          have e1 := HJ.out
          have e2 : sumN (fun i => (cSl cDriveD) (x i)) (k + 1) = sumN (fun i => (cSl cDriveD) (x i)) k + (cSl cDriveD) (x k) := rfl
          have e3 : (cSl cDriveD) (x k) = (cSl cDriveD) (x k) := rfl
          omega), HB1.out⟩
      case measure => simp [intOf]; omega
    · obtain rfl : k = n := by omega
      go_wp2
      go_ret
      exact ⟨rfl, hb⟩
end Go.Proofs.YthdknhjaohhfiaaGreat

namespace Go.Proofs.YthdknhjaohhfiaaGreat
open Go.RowKit F256
set_option linter.unusedVariables false
set_option linter.unusedSimpArgs false
set_option maxHeartbeats 8000000 in
set_option maxRecDepth 20000 in
theorem heldRecS_is : HdS (layRec.slice 43) (cSl cRecD) (mkSl cRecD mkRecD) 150 := fun v d hi j w h hhi hj => by
  obtain ⟨n, x⟩ := d
  obtain ⟨ao, cap, hv, hm, hc⟩ := h
  have hv' : v = .slice ao n cap := one_eq hv
  subst hv'
  clear hv
  have hj' : j + sumN (fun i => cRecD (x i)) n ≤ 100000000 := hj
  have hm' : n ≤ maxLen := hm
  have hc' : n ≠ 0 → ∃ b off, ao = some ⟨b, off, none⟩ ∧ b < hi ∧ ∀ i, i < n → ∃ ce, layRec.rd w hi (mkRecD (j + sumN (fun i => cRecD (x i)) i) (x i)) ce ∧ ∀ jj, jj < layRec.sz → w.cell? ⟨b, off + (i * layRec.sz + jj), none⟩ = ce[jj]? := hc
  clear hc hm hj
  unfold maxLen at hm'
  go_enter Tryz.func150, Tryz.ntmps150
  go_wp2
  go_loopw [1, 5] (fun y i wr => ∃ k : Nat, k ≤ n ∧ i = .int .i64 k ∧ y = .int .i64 ((j + sumN (fun i => cRecD (x i)) k : Nat) : Int) ∧ Below w.heap.size w wr) (fun _ i _ => n - (intOf i).toNat)
  case atStart => exact ⟨0, Nat.zero_le _, rfl, rfl, Below.refl _ _⟩
  case round =>
    obtain ⟨k, hk, rfl, rfl, hb⟩ := hrel
    by_cases hlt : k < n
    · obtain ⟨b, off, rfl, hblt, hel⟩ := hc' (by omega)
      obtain ⟨ck, hrk, hcell⟩ := elem_rd (t := 0) (x := fun i => mkRecD (j + sumN (fun i => cRecD (x i)) i) (x i)) hel hb hhi hblt hlt
      have hs1 : sumN (fun i => cRecD (x i)) (k + 1) ≤ sumN (fun i => cRecD (x i)) n := sumN_mono _ (show k + 1 ≤ n from hlt)
      rw [sumN_succ] at hs1
      have hrk1 : layRec.rd wr hi (mkRecD (j + sumN (fun i => cRecD (x i)) k) (x k)) ck := hrk
      clear hrk
      obtain ⟨J, hJ⟩ : ∃ J, J = j + sumN (fun i => cRecD (x i)) k := ⟨_, rfl⟩
      have hJb : J + cRecD (x k) ≤ 100000000 := by omega
      have HJ : Hid (J = j + sumN (fun i => cRecD (x i)) k) := hJ
      rw [← hJ] at hrk1 ⊢
      clear hs1 hJ hc' hel
      have zr := hb.size
      unfold cRecD at hJb
      obtain ⟨ao6, cap6, ao7, cap7, ao8, cap8, hck, r6, r7, r8, -⟩ := Rec_rd hrk1
      subst hck
      clear hrk1
      have c0_0 : wr.cell? ⟨b, off + k * 9, none⟩ = some (.int .i64 ((J : Int))) := hcell 0 (by decide)
      have c0_1 : wr.cell? ⟨b, off + k * 9 + 1, none⟩ = some (.int .i64 ((J : Int) + 1)) := hcell 1 (by decide)
      have c0_2 : wr.cell? ⟨b, off + k * 9 + 2, none⟩ = some (.string (markT (J + 2))) := hcell 2 (by decide)
      have c0_3 : wr.cell? ⟨b, off + k * 9 + 3, none⟩ = some (.int .i64 ((J : Int) + 3)) := hcell 3 (by decide)
      have c0_4 : wr.cell? ⟨b, off + k * 9 + 4, none⟩ = some (.int .i64 ((J : Int) + 4)) := hcell 4 (by decide)
      have c0_5 : wr.cell? ⟨b, off + k * 9 + 5, none⟩ = some (.int .i64 ((J : Int) + 5)) := hcell 5 (by decide)
      have c0_6 : wr.cell? ⟨b, off + k * 9 + 6, none⟩ = some (.slice ao6 (x k).rows.1 cap6) := hcell 6 (by decide)
      have c0_7 : wr.cell? ⟨b, off + k * 9 + 7, none⟩ = some (.slice ao7 (x k).data.1 cap7) := hcell 7 (by decide)
      have c0_8 : wr.cell? ⟨b, off + k * 9 + 8, none⟩ = some (.slice ao8 (x k).delta.1 cap8) := hcell 8 (by decide)
      have R0_6 : Hid (layInts.rd wr hi ((mkInts (J + 6) (x k).rows)) [.slice ao6 (x k).rows.1 cap6]) := r6
      have R0_7 : Hid (layBytes.rd wr hi ((mkBytes (J + 6 + lenD (x k).rows) (x k).data)) [.slice ao7 (x k).data.1 cap7]) := r7
      have R0_8 : Hid (layBytes.rd wr hi ((mkBytes (J + 6 + lenD (x k).rows + lenD (x k).data) (x k).delta)) [.slice ao8 (x k).delta.1 cap8]) := r8
      clear hcell r6 r7 r8
      have HB0 : Hid (Below w.heap.size w wr) := hb
      clear hb
      have C1 := markText_any (J + 2) (by omega) (by omega) (wr.drewN 1)
      go_wp2
      go_region_with (go_at_call 148; refine C1.mono ?_; rintro ee w1 ⟨rfl, bt⟩; have cx : w1.cell? ⟨b, off + k * 9 + 2, none⟩ = some (.string (markT (J + 2))) := (bt.cell (p := ⟨b, off + k * 9 + 2, none⟩) (by show b < wr.heap.size; omega)).trans c0_2)
      all_goals
        have bu : Below wr.heap.size wr w1 := (below_drewN (Below.refl wr.heap.size wr) 1).trans bt
        have zt : wr.heap.size ≤ w1.heap.size := bt.size
        have c1_3 : w1.cell? ⟨b, off + k * 9 + 3, none⟩ = some (.int .i64 ((J : Int) + 3)) := (bt.cell (p := ⟨b, off + k * 9 + 3, none⟩) (by show b < wr.heap.size; omega)).trans c0_3
        have c1_4 : w1.cell? ⟨b, off + k * 9 + 4, none⟩ = some (.int .i64 ((J : Int) + 4)) := (bt.cell (p := ⟨b, off + k * 9 + 4, none⟩) (by show b < wr.heap.size; omega)).trans c0_4
        have c1_5 : w1.cell? ⟨b, off + k * 9 + 5, none⟩ = some (.int .i64 ((J : Int) + 5)) := (bt.cell (p := ⟨b, off + k * 9 + 5, none⟩) (by show b < wr.heap.size; omega)).trans c0_5
        have c1_6 : w1.cell? ⟨b, off + k * 9 + 6, none⟩ = some (.slice ao6 (x k).rows.1 cap6) := (bt.cell (p := ⟨b, off + k * 9 + 6, none⟩) (by show b < wr.heap.size; omega)).trans c0_6
        have c1_7 : w1.cell? ⟨b, off + k * 9 + 7, none⟩ = some (.slice ao7 (x k).data.1 cap7) := (bt.cell (p := ⟨b, off + k * 9 + 7, none⟩) (by show b < wr.heap.size; omega)).trans c0_7
        have c1_8 : w1.cell? ⟨b, off + k * 9 + 8, none⟩ = some (.slice ao8 (x k).delta.1 cap8) := (bt.cell (p := ⟨b, off + k * 9 + 8, none⟩) (by show b < wr.heap.size; omega)).trans c0_8
        have R1_6 : Hid (layInts.rd w1 hi ((mkInts (J + 6) (x k).rows)) [.slice ao6 (x k).rows.1 cap6]) := layInts.rd_below R0_6.out bu (by show hi ≤ wr.heap.size; omega)
        have R1_7 : Hid (layBytes.rd w1 hi ((mkBytes (J + 6 + lenD (x k).rows) (x k).data)) [.slice ao7 (x k).data.1 cap7]) := layBytes.rd_below R0_7.out bu (by show hi ≤ wr.heap.size; omega)
        have R1_8 : Hid (layBytes.rd w1 hi ((mkBytes (J + 6 + lenD (x k).rows + lenD (x k).data) (x k).delta)) [.slice ao8 (x k).delta.1 cap8]) := layBytes.rd_below R0_8.out bu (by show hi ≤ wr.heap.size; omega)
        have HB1 : Hid (Below w.heap.size w w1) := HB0.out.trans ((below_drewN (Below.refl wr.heap.size wr) 1).trans bt |>.mono HB0.out.size)
        clear bt bu C1
        go_wp2_with fail
        refine (heldInts_is _ (x k).rows hi (J + 6) _ R1_6.out (by omega) (by omega)).mono ?_
        rintro e w2 ⟨rfl, b2⟩
        have z2 : w1.heap.size ≤ w2.heap.size := b2.size
        have hz2 : ¬ (((J + 6 + lenD (x k).rows : Nat) : Int) < 0) := by omega
        have c2_7 : w2.cell? ⟨b, off + k * 9 + 7, none⟩ = some (.slice ao7 (x k).data.1 cap7) := (b2.cell (p := ⟨b, off + k * 9 + 7, none⟩) (by show b < w1.heap.size; omega)).trans c1_7
        have c2_8 : w2.cell? ⟨b, off + k * 9 + 8, none⟩ = some (.slice ao8 (x k).delta.1 cap8) := (b2.cell (p := ⟨b, off + k * 9 + 8, none⟩) (by show b < w1.heap.size; omega)).trans c1_8
        have R2_7 : Hid (layBytes.rd w2 hi ((mkBytes (J + 6 + lenD (x k).rows) (x k).data)) [.slice ao7 (x k).data.1 cap7]) := layBytes.rd_below R1_7.out b2 (by omega)
        have R2_8 : Hid (layBytes.rd w2 hi ((mkBytes (J + 6 + lenD (x k).rows + lenD (x k).data) (x k).delta)) [.slice ao8 (x k).delta.1 cap8]) := layBytes.rd_below R1_8.out b2 (by omega)
        have HB2 : Hid (Below w.heap.size w w2) := HB1.out.trans (b2.mono HB1.out.size)
        clear b2
        go_wp2_with fail
        refine (heldBytes_is _ (x k).data hi (J + 6 + lenD (x k).rows) _ R2_7.out (by omega) (by omega)).mono ?_
        rintro e w3 ⟨rfl, b3⟩
        have z3 : w2.heap.size ≤ w3.heap.size := b3.size
        have hz3 : ¬ (((J + 6 + lenD (x k).rows + lenD (x k).data : Nat) : Int) < 0) := by omega
        have c3_8 : w3.cell? ⟨b, off + k * 9 + 8, none⟩ = some (.slice ao8 (x k).delta.1 cap8) := (b3.cell (p := ⟨b, off + k * 9 + 8, none⟩) (by show b < w2.heap.size; omega)).trans c2_8
        have R3_8 : Hid (layBytes.rd w3 hi ((mkBytes (J + 6 + lenD (x k).rows + lenD (x k).data) (x k).delta)) [.slice ao8 (x k).delta.1 cap8]) := layBytes.rd_below R2_8.out b3 (by omega)
        have HB3 : Hid (Below w.heap.size w w3) := HB2.out.trans (b3.mono HB2.out.size)
        clear b3
        go_wp2_with fail
        refine (heldBytes_is _ (x k).delta hi (J + 6 + lenD (x k).rows + lenD (x k).data) _ R3_8.out (by omega) (by omega)).mono ?_
        rintro e w4 ⟨rfl, b4⟩
        have z4 : w3.heap.size ≤ w4.heap.size := b4.size
        have hz4 : ¬ (((J + 6 + lenD (x k).rows + lenD (x k).data + lenD (x k).delta : Nat) : Int) < 0) := by omega
        have HB4 : Hid (Below w.heap.size w w4) := HB3.out.trans (b4.mono HB3.out.size)
        clear b4
        go_wp2_with fail
        go_roundw
        case rel =>
          exact ⟨k + 1, by omega, by go_num, val_eq (by
            have e1 := HJ.out
            have e2 : sumN (fun i => cRecD (x i)) (k + 1) = sumN (fun i => cRecD (x i)) k + cRecD (x k) := rfl
            have e3 : cRecD (x k) = 6 + lenD (x k).rows + lenD (x k).data + lenD (x k).delta := rfl
            omega), HB4.out⟩
        case measure => simp [intOf]; omega
    · obtain rfl : k = n := by omega
      go_wp2
      go_ret
      exact ⟨rfl, hb⟩
set_option maxHeartbeats 8000000 in
set_option maxRecDepth 20000 in
theorem heldTapeS_is : HdS (layTape.slice 112) (cSl cTapeD) (mkSl cTapeD mkTapeD) 101 := fun v d hi j w h hhi hj => by
  obtain ⟨n, x⟩ := d
  obtain ⟨ao, cap, hv, hm, hc⟩ := h
  have hv' : v = .slice ao n cap := one_eq hv
  subst hv'
  clear hv
  have hj' : j + sumN (fun i => cTapeD (x i)) n ≤ 100000000 := hj
  have hm' : n ≤ maxLen := hm
  have hc' : n ≠ 0 → ∃ b off, ao = some ⟨b, off, none⟩ ∧ b < hi ∧ ∀ i, i < n → ∃ ce, layTape.rd w hi (mkTapeD (j + sumN (fun i => cTapeD (x i)) i) (x i)) ce ∧ ∀ jj, jj < layTape.sz → w.cell? ⟨b, off + (i * layTape.sz + jj), none⟩ = ce[jj]? := hc
  clear hc hm hj
  unfold maxLen at hm'
  go_enter Tryz.func101, Tryz.ntmps101
  go_wp2
  go_loopw [1, 5] (fun y i wr => ∃ k : Nat, k ≤ n ∧ i = .int .i64 k ∧ y = .int .i64 ((j + sumN (fun i => cTapeD (x i)) k : Nat) : Int) ∧ Below w.heap.size w wr) (fun _ i _ => n - (intOf i).toNat)
  case atStart => exact ⟨0, Nat.zero_le _, rfl, rfl, Below.refl _ _⟩
  case round =>
    obtain ⟨k, hk, rfl, rfl, hb⟩ := hrel
    by_cases hlt : k < n
    · obtain ⟨b, off, rfl, hblt, hel⟩ := hc' (by omega)
      obtain ⟨ck, hrk, hcell⟩ := elem_rd (t := 0) (x := fun i => mkTapeD (j + sumN (fun i => cTapeD (x i)) i) (x i)) hel hb hhi hblt hlt
      have hs1 : sumN (fun i => cTapeD (x i)) (k + 1) ≤ sumN (fun i => cTapeD (x i)) n := sumN_mono _ (show k + 1 ≤ n from hlt)
      rw [sumN_succ] at hs1
      have hrk1 : layTape.rd wr hi (mkTapeD (j + sumN (fun i => cTapeD (x i)) k) (x k)) ck := hrk
      clear hrk
      obtain ⟨J, hJ⟩ : ∃ J, J = j + sumN (fun i => cTapeD (x i)) k := ⟨_, rfl⟩
      have hJb : J + cTapeD (x k) ≤ 100000000 := by omega
      have HJ : Hid (J = j + sumN (fun i => cTapeD (x i)) k) := hJ
      rw [← hJ] at hrk1 ⊢
      clear hs1 hJ hc' hel
      have zr := hb.size
      unfold cTapeD at hJb
      obtain ⟨ao1, cap1, hck, r1⟩ := Tape_rd hrk1
      subst hck
      clear hrk1
      have c0_0 : wr.cell? ⟨b, off + k * 2, none⟩ = some (.bool (decide (J % 3 = 0))) := hcell 0 (by decide)
      have c0_1 : wr.cell? ⟨b, off + k * 2 + 1, none⟩ = some (.slice ao1 (x k).recs.1 cap1) := hcell 1 (by decide)
      have R0_1 : Hid ((layRec.slice 43).rd wr hi (((mkSl cRecD mkRecD) (J + 1) (x k).recs)) [.slice ao1 (x k).recs.1 cap1]) := r1
      clear hcell r1
      have hb3 : ((J : Int) % 3 == 0) = decide (J % 3 = 0) := b3_eq J
      have HB0 : Hid (Below w.heap.size w wr) := hb
      clear hb
      go_wp2_with fail
      refine (heldRecS_is _ (x k).recs hi (J + 1) _ R0_1.out (by omega) (by omega)).mono ?_
      rintro e w1 ⟨rfl, b1⟩
      have z1 : wr.heap.size ≤ w1.heap.size := b1.size
      have hz1 : ¬ (((J + 1 + (cSl cRecD) (x k).recs : Nat) : Int) < 0) := by omega
      have HB1 : Hid (Below w.heap.size w w1) := HB0.out.trans (b1.mono HB0.out.size)
      clear b1
      go_wp2_with fail
      go_roundw
      case rel =>
        exact ⟨k + 1, by omega, by go_num, val_eq (by
          have e1 := HJ.out
          have e2 : sumN (fun i => cTapeD (x i)) (k + 1) = sumN (fun i => cTapeD (x i)) k + cTapeD (x k) := rfl
          have e3 : cTapeD (x k) = 1 + (cSl cRecD) (x k).recs := rfl
          omega), HB1.out⟩
      case measure => simp [intOf]; omega
    · obtain rfl : k = n := by omega
      go_wp2
      go_ret
      exact ⟨rfl, hb⟩
end Go.Proofs.YthdknhjaohhfiaaGreat

namespace Go.Proofs.YthdknhjaohhfiaaGreat
open Go.RowKit F256
set_option linter.unusedVariables false
set_option linter.unusedSimpArgs false
set_option maxHeartbeats 4000000 in
theorem heldWorld_is : HdV layWorld cvWorldD mkvWorldD 51 := fun cs d hi j w h hhi hj => by
  obtain ⟨ao1, cap1, ao2, cap2, ao3, cap3, rfl, r1, r2, r3, -⟩ := World_rd h
  clear h
  unfold cvWorldD at hj ⊢
  have R1 : Hid (((layDrive.slice 106).slice 103).rd w hi ((mkSl (cSl cDriveD) (mkSl cDriveD mkDriveD)) (j) d.groups) [.slice ao1 d.groups.1 cap1]) := r1
  have R2 : Hid (layInts.rd w hi (mkInts (j + (cSl (cSl cDriveD)) d.groups) d.on) [.slice ao2 d.on.1 cap2]) := r2
  have R3 : Hid ((layTape.slice 112).rd w hi ((mkSl cTapeD mkTapeD) (j + (cSl (cSl cDriveD)) d.groups + lenD d.on) d.tapes) [.slice ao3 d.tapes.1 cap3]) := r3
  clear r1 r2 r3
  change Calls Tryz.prog 51 #[.agg #[.int .i64 (d.shape 0), .int .i64 (d.shape 1), .int .i64 (d.shape 2), .int .i64 (d.shape 3), .int .i64 (d.shape 4), .int .i64 (d.shape 5), .int .i64 (d.shape 6), .int .i64 (d.shape 7), .int .i64 (d.shape 8), .slice ao1 d.groups.1 cap1, .slice ao2 d.on.1 cap2, .slice ao3 d.tapes.1 cap3, .int .i64 d.writes, .int .i64 d.stop, .bool d.down], .int .i64 j] w _
  go_enter Tryz.func51, Tryz.ntmps51
  go_wp2_with fail
  have T0 := one_new w #[.int .i64 (d.shape 0), .int .i64 (d.shape 1), .int .i64 (d.shape 2), .int .i64 (d.shape 3), .int .i64 (d.shape 4), .int .i64 (d.shape 5), .int .i64 (d.shape 6), .int .i64 (d.shape 7), .int .i64 (d.shape 8), .slice ao1 d.groups.1 cap1, .slice ao2 d.on.1 cap2, .slice ao3 d.tapes.1 cap3, .int .i64 d.writes, .int .i64 d.stop, .bool d.down] 38
  refine (heldDriveSS_is _ d.groups hi (j) _ (((layDrive.slice 106).slice 103).rd_below R1.out T0.bel hhi) (Nat.le_trans hhi T0.bel.size) (by omega)).mono ?_
  rintro e w1 ⟨rfl, b1⟩
  have T1 : One w w1 #[.int .i64 (d.shape 0), .int .i64 (d.shape 1), .int .i64 (d.shape 2), .int .i64 (d.shape 3), .int .i64 (d.shape 4), .int .i64 (d.shape 5), .int .i64 (d.shape 6), .int .i64 (d.shape 7), .int .i64 (d.shape 8), .slice ao1 d.groups.1 cap1, .slice ao2 d.on.1 cap2, .slice ao3 d.tapes.1 cap3, .int .i64 d.writes, .int .i64 d.stop, .bool d.down] 38 := T0.call b1
  have hz1 : ¬ (((j + (cSl (cSl cDriveD)) d.groups : Nat) : Int) < 0) := by omega
  have x1_10 : w1.cell? ⟨w.heap.size, 10, none⟩ = some (.slice ao2 d.on.1 cap2) := T1.b1.cell 10
  clear b1
  go_wp2_with fail
  refine (heldInts_is _ d.on hi (j + (cSl (cSl cDriveD)) d.groups) _ (layInts.rd_below R2.out T1.bel hhi) (Nat.le_trans hhi T1.bel.size) (by omega)).mono ?_
  rintro e w2 ⟨rfl, b2⟩
  have T2 : One w w2 #[.int .i64 (d.shape 0), .int .i64 (d.shape 1), .int .i64 (d.shape 2), .int .i64 (d.shape 3), .int .i64 (d.shape 4), .int .i64 (d.shape 5), .int .i64 (d.shape 6), .int .i64 (d.shape 7), .int .i64 (d.shape 8), .slice ao1 d.groups.1 cap1, .slice ao2 d.on.1 cap2, .slice ao3 d.tapes.1 cap3, .int .i64 d.writes, .int .i64 d.stop, .bool d.down] 38 := T1.call b2
  have hz2 : ¬ (((j + (cSl (cSl cDriveD)) d.groups + lenD d.on : Nat) : Int) < 0) := by omega
  have x2_11 : w2.cell? ⟨w.heap.size, 11, none⟩ = some (.slice ao3 d.tapes.1 cap3) := T2.b1.cell 11
  clear b2
  go_wp2_with fail
  refine (heldTapeS_is _ d.tapes hi (j + (cSl (cSl cDriveD)) d.groups + lenD d.on) _ ((layTape.slice 112).rd_below R3.out T2.bel hhi) (Nat.le_trans hhi T2.bel.size) (by omega)).mono ?_
  rintro e w3 ⟨rfl, b3⟩
  have T3 : One w w3 #[.int .i64 (d.shape 0), .int .i64 (d.shape 1), .int .i64 (d.shape 2), .int .i64 (d.shape 3), .int .i64 (d.shape 4), .int .i64 (d.shape 5), .int .i64 (d.shape 6), .int .i64 (d.shape 7), .int .i64 (d.shape 8), .slice ao1 d.groups.1 cap1, .slice ao2 d.on.1 cap2, .slice ao3 d.tapes.1 cap3, .int .i64 d.writes, .int .i64 d.stop, .bool d.down] 38 := T2.call b3
  have hz3 : ¬ (((j + (cSl (cSl cDriveD)) d.groups + lenD d.on + (cSl cTapeD) d.tapes : Nat) : Int) < 0) := by omega
  have HB : Hid (Below w.heap.size w w3) := T3.bel
  clear b3 T3
  go_wp2
  go_ret
  exact ⟨ret_eq (by omega), HB.out⟩
set_option maxHeartbeats 4000000 in
theorem heldWorldResult_is : HdV layWorldResult cvWorldResultD mkvWorldResultD 18 := fun cs d hi j w h hhi hj => by
  obtain ⟨ao1_1, cap1_1, ao1_2, cap1_2, ao1_3, cap1_3, rfl, r1, -⟩ := WorldResult_rd h
  clear h
  unfold cvWorldResultD at hj ⊢
  have R1 := (show Hid (layWorld.rd w hi (mkvWorldD (j) d.world) _) from r1)
  clear r1
  change Calls Tryz.prog 18 #[.agg #[.int .i64 d.code, .int .i64 (d.world.shape 0), .int .i64 (d.world.shape 1), .int .i64 (d.world.shape 2), .int .i64 (d.world.shape 3), .int .i64 (d.world.shape 4), .int .i64 (d.world.shape 5), .int .i64 (d.world.shape 6), .int .i64 (d.world.shape 7), .int .i64 (d.world.shape 8), .slice ao1_1 d.world.groups.1 cap1_1, .slice ao1_2 d.world.on.1 cap1_2, .slice ao1_3 d.world.tapes.1 cap1_3, .int .i64 d.world.writes, .int .i64 d.world.stop, .bool d.world.down], .int .i64 j] w _
  go_enter Tryz.func18, Tryz.ntmps18
  go_wp2_with fail
  have T0 := one_new w #[.int .i64 d.code, .int .i64 (d.world.shape 0), .int .i64 (d.world.shape 1), .int .i64 (d.world.shape 2), .int .i64 (d.world.shape 3), .int .i64 (d.world.shape 4), .int .i64 (d.world.shape 5), .int .i64 (d.world.shape 6), .int .i64 (d.world.shape 7), .int .i64 (d.world.shape 8), .slice ao1_1 d.world.groups.1 cap1_1, .slice ao1_2 d.world.on.1 cap1_2, .slice ao1_3 d.world.tapes.1 cap1_3, .int .i64 d.world.writes, .int .i64 d.world.stop, .bool d.world.down] 40
  refine (heldWorld_is _ d.world hi (j) _ (layWorld.rd_below R1.out T0.bel hhi) (Nat.le_trans hhi T0.bel.size) (by omega)).mono ?_
  rintro e w1 ⟨rfl, b1⟩
  have T1 : One w w1 #[.int .i64 d.code, .int .i64 (d.world.shape 0), .int .i64 (d.world.shape 1), .int .i64 (d.world.shape 2), .int .i64 (d.world.shape 3), .int .i64 (d.world.shape 4), .int .i64 (d.world.shape 5), .int .i64 (d.world.shape 6), .int .i64 (d.world.shape 7), .int .i64 (d.world.shape 8), .slice ao1_1 d.world.groups.1 cap1_1, .slice ao1_2 d.world.on.1 cap1_2, .slice ao1_3 d.world.tapes.1 cap1_3, .int .i64 d.world.writes, .int .i64 d.world.stop, .bool d.world.down] 40 := T0.call b1
  have hz1 : ¬ (((j + cvWorldD d.world : Nat) : Int) < 0) := by omega
  have HB : Hid (Below w.heap.size w w1) := T1.bel
  clear b1 T1
  go_wp2
  go_ret
  exact ⟨ret_eq (by omega), HB.out⟩
end Go.Proofs.YthdknhjaohhfiaaGreat

namespace Go.Proofs.YthdknhjaohhfiaaGreat
open Go.RowKit F256
set_option linter.unusedVariables false
set_option linter.unusedSimpArgs false
set_option maxHeartbeats 4000000 in
theorem szBlock_is : SzV layBlock szBlockD 199 := fun cs d hi L w r hhi hL => by
  obtain ⟨ao1, cap1, rfl, r1, k0⟩ := Block_rd r
  clear r
  unfold szBlockD
  have R1 : Hid (layBytes.rd w hi d.bytes [.slice ao1 d.bytes.1 cap1]) := r1
  clear r1
  go_enter Tryz.func199, Tryz.ntmps199
  go_wp2_with fail
  have T0 := one_new w #[.int .i64 d.stamp, .slice ao1 d.bytes.1 cap1] 207
  refine (szBytes_is _ d.bytes hi L _ (layBytes.rd_below R1.out T0.bel hhi) (Nat.le_trans hhi T0.bel.size) (by omega)).mono ?_
  rintro e w1 ⟨y1, rfl, s1, b1⟩
  have T1 : One w w1 #[.int .i64 d.stamp, .slice ao1 d.bytes.1 cap1] 207 := T0.call b1
  have HB1 : Hid (Below w.heap.size w w1) := T1.bel
  rcases s1 with rfl | ⟨l1, hy1⟩
  · clear T1 T0 b1
    go_wp2
    go_ret
    exact ⟨-1, rfl, .inl rfl, HB1.out⟩
  obtain ⟨M1, hM1⟩ : ∃ M : Nat, M + lenD d.bytes = L := ⟨L - lenD d.bytes, by omega⟩
  obtain rfl : y1 = ((M1 : Nat) : Int) := by omega
  have HM1 : Hid (M1 + lenD d.bytes = L) := hM1
  have hML1 : M1 ≤ L := by omega
  have hz1 : ¬ ((M1 : Int) < 0) := by omega
  clear hM1 hy1 l1 T0 b1
  clear T1
  go_wp2
  go_ret
  exact ⟨M1, rfl, .inr ⟨by have e0 := HM1.out; omega, by have e0 := HM1.out; omega⟩, HB1.out⟩
set_option maxHeartbeats 4000000 in
theorem szBlockS_is : SzS (layBlock.slice 108) (szSl szBlockD) 164 := fun v d hi L w h hhi hL => by
  obtain ⟨n, x⟩ := d
  obtain ⟨ao, cap, hv, hm, hc⟩ := h
  cases hv
  simp only at hm hc
  unfold maxLen at hm
  by_cases hnL : L < n
  · clear hc
    have hz : (L : Int) - (n : Int) < 0 := by omega
    go_enter Tryz.func164, Tryz.ntmps164
    go_wp2
    go_ret
    exact ⟨-1, rfl, .inl rfl, Below.refl _ _⟩
  · have hz : ¬ (L : Int) - (n : Int) < 0 := by omega
    go_enter Tryz.func164, Tryz.ntmps164
    go_wp2
    go_loopw [1, 5] (fun y i wr => ∃ k M : Nat, k ≤ n ∧ i = .int .i64 k ∧ y = .int .i64 M ∧ M + n + sumN (fun i => szBlockD (x i)) k = L ∧ Below w.heap.size w wr) (fun _ i _ => n - (intOf i).toNat)
    case atStart => exact ⟨0, L - n, Nat.zero_le _, rfl, val_eq (by omega), by simp [sumN]; omega, Below.refl _ _⟩
    case round =>
      obtain ⟨k, M, hk, rfl, rfl, hM, hb⟩ := hrel
      have HM : Hid (M + n + sumN (fun i => szBlockD (x i)) k = L) := hM
      have hML : M ≤ L := by omega
      clear hM
      by_cases hlt : k < n
      · obtain ⟨b, off, rfl, hblt, hel⟩ := hc (by omega)
        obtain ⟨ck, hrk, hcell⟩ := elem_rd (t := 0) hel hb hhi hblt hlt
        obtain ⟨ao1, cap1, rfl, -⟩ := Block_rd hrk
        have c0 : wr.cell? ⟨b, off + k * 2, none⟩ = some (.int .i64 (x k).stamp) := hcell 0 (by decide)
        have c1 : wr.cell? ⟨b, off + k * 2 + 1, none⟩ = some (.slice ao1 (x k).bytes.1 cap1) := hcell 1 (by decide)
        clear hc hel hcell
        go_wp2_with fail
        refine (szBlock_is _ (x k) hi M _ hrk (Nat.le_trans hhi hb.size) (by omega)).mono ?_
        rintro e w2 ⟨y, rfl, s, b2⟩
        have HB : Hid (Below w.heap.size w w2) := hb.trans (b2.mono hb.size)
        clear b2 hb hrk
        rcases s with rfl | ⟨l1, hy⟩
        · go_wp2
          go_ret
          exact ⟨-1, rfl, .inl rfl, HB.out⟩
        · obtain ⟨M', hM'⟩ : ∃ M' : Nat, M' + szBlockD (x k) = M := ⟨M - szBlockD (x k), by omega⟩
          obtain rfl : y = (M' : Int) := by omega
          have HM' : Hid (M' + szBlockD (x k) = M) := hM'
          have hz2 : ¬ ((M' : Int) < 0) := by omega
          clear hM' hy l1
          go_wp2_with fail
          go_roundw
          case rel => exact ⟨k + 1, M', by omega, by go_num, rfl, by
                have e1 := HM.out
                have e2 := HM'.out
                have e3 : sumN (fun i => szBlockD (x i)) (k + 1) = sumN (fun i => szBlockD (x i)) k + szBlockD (x k) := rfl
                omega, HB.out⟩
          case measure => simp [intOf]; omega
      · obtain rfl : k = n := by omega
        go_wp2
        go_ret
        exact ⟨M, rfl, .inr ⟨by
          have e1 := HM.out
          show k + sumN (fun i => szBlockD (x i)) k ≤ L
          omega, by
          have e1 := HM.out
          show (M : Int) = (L : Int) - ((k + sumN (fun i => szBlockD (x i)) k : Nat) : Int)
          omega⟩, hb⟩
set_option maxHeartbeats 4000000 in
theorem szDrive_is : SzV layDrive szDriveD 111 := fun cs d hi L w r hhi hL => by
  obtain ⟨ao1, cap1, rfl, r1⟩ := Drive_rd r
  clear r
  unfold szDriveD
  have R1 : Hid ((layBlock.slice 108).rd w hi d.blocks [.slice ao1 d.blocks.1 cap1]) := r1
  clear r1
  go_enter Tryz.func111, Tryz.ntmps111
  go_wp2_with fail
  have T0 := one_new w #[.bool d.wiped, .slice ao1 d.blocks.1 cap1] 156
  refine (szBlockS_is _ d.blocks hi L _ ((layBlock.slice 108).rd_below R1.out T0.bel hhi) (Nat.le_trans hhi T0.bel.size) (by omega)).mono ?_
  rintro e w1 ⟨y1, rfl, s1, b1⟩
  have T1 : One w w1 #[.bool d.wiped, .slice ao1 d.blocks.1 cap1] 156 := T0.call b1
  have HB1 : Hid (Below w.heap.size w w1) := T1.bel
  rcases s1 with rfl | ⟨l1, hy1⟩
  · clear T1 T0 b1
    go_wp2
    go_ret
    exact ⟨-1, rfl, .inl rfl, HB1.out⟩
  obtain ⟨M1, hM1⟩ : ∃ M : Nat, M + (szSl szBlockD) d.blocks = L := ⟨L - (szSl szBlockD) d.blocks, by omega⟩
  obtain rfl : y1 = ((M1 : Nat) : Int) := by omega
  have HM1 : Hid (M1 + (szSl szBlockD) d.blocks = L) := hM1
  have hML1 : M1 ≤ L := by omega
  have hz1 : ¬ ((M1 : Int) < 0) := by omega
  clear hM1 hy1 l1 T0 b1
  clear T1
  go_wp2
  go_ret
  exact ⟨M1, rfl, .inr ⟨by have e0 := HM1.out; omega, by have e0 := HM1.out; omega⟩, HB1.out⟩
set_option maxHeartbeats 4000000 in
theorem szDriveS_is : SzS (layDrive.slice 106) (szSl szDriveD) 59 := fun v d hi L w h hhi hL => by
  obtain ⟨n, x⟩ := d
  obtain ⟨ao, cap, hv, hm, hc⟩ := h
  cases hv
  simp only at hm hc
  unfold maxLen at hm
  by_cases hnL : L < n
  · clear hc
    have hz : (L : Int) - (n : Int) < 0 := by omega
    go_enter Tryz.func59, Tryz.ntmps59
    go_wp2
    go_ret
    exact ⟨-1, rfl, .inl rfl, Below.refl _ _⟩
  · have hz : ¬ (L : Int) - (n : Int) < 0 := by omega
    go_enter Tryz.func59, Tryz.ntmps59
    go_wp2
    go_loopw [1, 5] (fun y i wr => ∃ k M : Nat, k ≤ n ∧ i = .int .i64 k ∧ y = .int .i64 M ∧ M + n + sumN (fun i => szDriveD (x i)) k = L ∧ Below w.heap.size w wr) (fun _ i _ => n - (intOf i).toNat)
    case atStart => exact ⟨0, L - n, Nat.zero_le _, rfl, val_eq (by omega), by simp [sumN]; omega, Below.refl _ _⟩
    case round =>
      obtain ⟨k, M, hk, rfl, rfl, hM, hb⟩ := hrel
      have HM : Hid (M + n + sumN (fun i => szDriveD (x i)) k = L) := hM
      have hML : M ≤ L := by omega
      clear hM
      by_cases hlt : k < n
      · obtain ⟨b, off, rfl, hblt, hel⟩ := hc (by omega)
        obtain ⟨ck, hrk, hcell⟩ := elem_rd (t := 0) hel hb hhi hblt hlt
        obtain ⟨ao1, cap1, rfl, -⟩ := Drive_rd hrk
        have c0 : wr.cell? ⟨b, off + k * 2, none⟩ = some (.bool (x k).wiped) := hcell 0 (by decide)
        have c1 : wr.cell? ⟨b, off + k * 2 + 1, none⟩ = some (.slice ao1 (x k).blocks.1 cap1) := hcell 1 (by decide)
        clear hc hel hcell
        go_wp2_with fail
        refine (szDrive_is _ (x k) hi M _ hrk (Nat.le_trans hhi hb.size) (by omega)).mono ?_
        rintro e w2 ⟨y, rfl, s, b2⟩
        have HB : Hid (Below w.heap.size w w2) := hb.trans (b2.mono hb.size)
        clear b2 hb hrk
        rcases s with rfl | ⟨l1, hy⟩
        · go_wp2
          go_ret
          exact ⟨-1, rfl, .inl rfl, HB.out⟩
        · obtain ⟨M', hM'⟩ : ∃ M' : Nat, M' + szDriveD (x k) = M := ⟨M - szDriveD (x k), by omega⟩
          obtain rfl : y = (M' : Int) := by omega
          have HM' : Hid (M' + szDriveD (x k) = M) := hM'
          have hz2 : ¬ ((M' : Int) < 0) := by omega
          clear hM' hy l1
          go_wp2_with fail
          go_roundw
          case rel => exact ⟨k + 1, M', by omega, by go_num, rfl, by
                have e1 := HM.out
                have e2 := HM'.out
                have e3 : sumN (fun i => szDriveD (x i)) (k + 1) = sumN (fun i => szDriveD (x i)) k + szDriveD (x k) := rfl
                omega, HB.out⟩
          case measure => simp [intOf]; omega
      · obtain rfl : k = n := by omega
        go_wp2
        go_ret
        exact ⟨M, rfl, .inr ⟨by
          have e1 := HM.out
          show k + sumN (fun i => szDriveD (x i)) k ≤ L
          omega, by
          have e1 := HM.out
          show (M : Int) = (L : Int) - ((k + sumN (fun i => szDriveD (x i)) k : Nat) : Int)
          omega⟩, hb⟩
set_option maxHeartbeats 4000000 in
theorem szDriveSS_is : SzS ((layDrive.slice 106).slice 103) (szSl (szSl szDriveD)) 23 := fun v d hi L w h hhi hL => by
  obtain ⟨n, x⟩ := d
  obtain ⟨ao, cap, hv, hm, hc⟩ := h
  cases hv
  simp only at hm hc
  unfold maxLen at hm
  by_cases hnL : L < n
  · clear hc
    have hz : (L : Int) - (n : Int) < 0 := by omega
    go_enter Tryz.func23, Tryz.ntmps23
    go_wp2
    go_ret
    exact ⟨-1, rfl, .inl rfl, Below.refl _ _⟩
  · have hz : ¬ (L : Int) - (n : Int) < 0 := by omega
    go_enter Tryz.func23, Tryz.ntmps23
    go_wp2
    go_loopw [1, 5] (fun y i wr => ∃ k M : Nat, k ≤ n ∧ i = .int .i64 k ∧ y = .int .i64 M ∧ M + n + sumN (fun i => (szSl szDriveD) (x i)) k = L ∧ Below w.heap.size w wr) (fun _ i _ => n - (intOf i).toNat)
    case atStart => exact ⟨0, L - n, Nat.zero_le _, rfl, val_eq (by omega), by simp [sumN]; omega, Below.refl _ _⟩
    case round =>
      obtain ⟨k, M, hk, rfl, rfl, hM, hb⟩ := hrel
      have HM : Hid (M + n + sumN (fun i => (szSl szDriveD) (x i)) k = L) := hM
      have hML : M ≤ L := by omega
      clear hM
      by_cases hlt : k < n
      · obtain ⟨b, off, rfl, hblt, hel⟩ := hc (by omega)
        obtain ⟨ck, hrk, hcell⟩ := elem_rd (t := 0) hel hb hhi hblt hlt
        obtain ⟨ao9, cap9, rfl⟩ := sl_form hrk
        have c0 : wr.cell? ⟨b, off + k, none⟩ = some (.slice ao9 (x k).1 cap9) := by
          have h := hcell 0 (show 0 < 1 by decide)
          rw [show (layDrive.slice 106).sz = 1 from rfl, Nat.mul_one, Nat.add_zero] at h
          exact h
        clear hc hel hcell
        go_wp2_with fail
        refine (szDriveS_is _ (x k) hi M _ hrk (Nat.le_trans hhi hb.size) (by omega)).mono ?_
        rintro e w2 ⟨y, rfl, s, b2⟩
        have HB : Hid (Below w.heap.size w w2) := hb.trans (b2.mono hb.size)
        clear b2 hb hrk
        rcases s with rfl | ⟨l1, hy⟩
        · go_wp2
          go_ret
          exact ⟨-1, rfl, .inl rfl, HB.out⟩
        · obtain ⟨M', hM'⟩ : ∃ M' : Nat, M' + (szSl szDriveD) (x k) = M := ⟨M - (szSl szDriveD) (x k), by omega⟩
          obtain rfl : y = (M' : Int) := by omega
          have HM' : Hid (M' + (szSl szDriveD) (x k) = M) := hM'
          have hz2 : ¬ ((M' : Int) < 0) := by omega
          clear hM' hy l1
          go_wp2_with fail
          go_roundw
          case rel => exact ⟨k + 1, M', by omega, by go_num, rfl, by
                have e1 := HM.out
                have e2 := HM'.out
                have e3 : sumN (fun i => (szSl szDriveD) (x i)) (k + 1) = sumN (fun i => (szSl szDriveD) (x i)) k + (szSl szDriveD) (x k) := rfl
                omega, HB.out⟩
          case measure => simp [intOf]; omega
      · obtain rfl : k = n := by omega
        go_wp2
        go_ret
        exact ⟨M, rfl, .inr ⟨by
          have e1 := HM.out
          show k + sumN (fun i => (szSl szDriveD) (x i)) k ≤ L
          omega, by
          have e1 := HM.out
          show (M : Int) = (L : Int) - ((k + sumN (fun i => (szSl szDriveD) (x i)) k : Nat) : Int)
          omega⟩, hb⟩
end Go.Proofs.YthdknhjaohhfiaaGreat

namespace Go.Proofs.YthdknhjaohhfiaaGreat
open Go.RowKit F256
set_option linter.unusedVariables false
set_option linter.unusedSimpArgs false
set_option maxHeartbeats 4000000 in
theorem szRec_is : SzV layRec szRecD 7 := fun cs d hi L w r hhi hL => by
  obtain ⟨ao6, cap6, ao7, cap7, ao8, cap8, rfl, r6, r7, r8, k0, k1, k2, k3, k4, k5⟩ := Rec_rd r
  clear r
  unfold szRecD
  have R6 : Hid (layInts.rd w hi d.rows [.slice ao6 d.rows.1 cap6]) := r6
  have R7 : Hid (layBytes.rd w hi d.data [.slice ao7 d.data.1 cap7]) := r7
  have R8 : Hid (layBytes.rd w hi d.delta [.slice ao8 d.delta.1 cap8]) := r8
  clear r6 r7 r8
  unfold maxLen at k2
  by_cases hnm : L < d.name.size
  · have hz : (L : Int) - (d.name.size : Int) < 0 := by omega
    go_enter Tryz.func7, Tryz.ntmps7
    go_wp2
    go_ret
    exact ⟨-1, rfl, .inl rfl, (one_new w _ _).bel⟩
  · have hz : ¬ (L : Int) - (d.name.size : Int) < 0 := by omega
    obtain ⟨M0, hM0⟩ : ∃ M0 : Nat, M0 + d.name.size = L := ⟨L - d.name.size, by omega⟩
    have eM0 : (L : Int) - (d.name.size : Int) = (M0 : Int) := by omega
    go_enter Tryz.func7, Tryz.ntmps7
    go_wp2_with fail
    have T0 := one_new w #[.int .i64 d.kind, .int .i64 d.seq, .string d.name, .int .i64 d.length, .int .i64 d.group, .int .i64 d.row, .slice ao6 d.rows.1 cap6, .slice ao7 d.data.1 cap7, .slice ao8 d.delta.1 cap8] 31
    have HM0 : Hid (M0 + d.name.size = L) := hM0
    have hML0 : M0 ≤ L := by omega
    first | rw [eM0] | skip
    clear hM0
    refine (szInts_is _ d.rows hi M0 _ (layInts.rd_below R6.out T0.bel hhi) (Nat.le_trans hhi T0.bel.size) (by omega)).mono ?_
    rintro e w1 ⟨y1, rfl, s1, b1⟩
    have T1 : One w w1 #[.int .i64 d.kind, .int .i64 d.seq, .string d.name, .int .i64 d.length, .int .i64 d.group, .int .i64 d.row, .slice ao6 d.rows.1 cap6, .slice ao7 d.data.1 cap7, .slice ao8 d.delta.1 cap8] 31 := T0.call b1
    have x1_7 : w1.cell? ⟨w.heap.size, 7, none⟩ = some (.slice ao7 d.data.1 cap7) := T1.b1.cell 7
    have HB1 : Hid (Below w.heap.size w w1) := T1.bel
    rcases s1 with rfl | ⟨l1, hy1⟩
    · clear T1 T0 b1
      go_wp2
      go_ret
      exact ⟨-1, rfl, .inl rfl, HB1.out⟩
    obtain ⟨M1, hM1⟩ : ∃ M : Nat, M + lenD d.rows = M0 := ⟨M0 - lenD d.rows, by omega⟩
    obtain rfl : y1 = ((M1 : Nat) : Int) := by omega
    have HM1 : Hid (M1 + lenD d.rows = M0) := hM1
    have hML1 : M1 ≤ M0 := by omega
    have hz1 : ¬ ((M1 : Int) < 0) := by omega
    clear hM1 hy1 l1 T0 b1
    go_wp2_with fail
    refine (szBytes_is _ d.data hi M1 _ (layBytes.rd_below R7.out T1.bel hhi) (Nat.le_trans hhi T1.bel.size) (by omega)).mono ?_
    rintro e w2 ⟨y2, rfl, s2, b2⟩
    have T2 : One w w2 #[.int .i64 d.kind, .int .i64 d.seq, .string d.name, .int .i64 d.length, .int .i64 d.group, .int .i64 d.row, .slice ao6 d.rows.1 cap6, .slice ao7 d.data.1 cap7, .slice ao8 d.delta.1 cap8] 31 := T1.call b2
    have x2_8 : w2.cell? ⟨w.heap.size, 8, none⟩ = some (.slice ao8 d.delta.1 cap8) := T2.b1.cell 8
    have HB2 : Hid (Below w.heap.size w w2) := T2.bel
    rcases s2 with rfl | ⟨l2, hy2⟩
    · clear T2 T1 b2
      go_wp2
      go_ret
      exact ⟨-1, rfl, .inl rfl, HB2.out⟩
    obtain ⟨M2, hM2⟩ : ∃ M : Nat, M + lenD d.data = M1 := ⟨M1 - lenD d.data, by omega⟩
    obtain rfl : y2 = ((M2 : Nat) : Int) := by omega
    have HM2 : Hid (M2 + lenD d.data = M1) := hM2
    have hML2 : M2 ≤ M1 := by omega
    have hz2 : ¬ ((M2 : Int) < 0) := by omega
    clear hM2 hy2 l2 T1 b2
    go_wp2_with fail
    refine (szBytes_is _ d.delta hi M2 _ (layBytes.rd_below R8.out T2.bel hhi) (Nat.le_trans hhi T2.bel.size) (by omega)).mono ?_
    rintro e w3 ⟨y3, rfl, s3, b3⟩
    have T3 : One w w3 #[.int .i64 d.kind, .int .i64 d.seq, .string d.name, .int .i64 d.length, .int .i64 d.group, .int .i64 d.row, .slice ao6 d.rows.1 cap6, .slice ao7 d.data.1 cap7, .slice ao8 d.delta.1 cap8] 31 := T2.call b3
    have HB3 : Hid (Below w.heap.size w w3) := T3.bel
    rcases s3 with rfl | ⟨l3, hy3⟩
    · clear T3 T2 b3
      go_wp2
      go_ret
      exact ⟨-1, rfl, .inl rfl, HB3.out⟩
    obtain ⟨M3, hM3⟩ : ∃ M : Nat, M + lenD d.delta = M2 := ⟨M2 - lenD d.delta, by omega⟩
    obtain rfl : y3 = ((M3 : Nat) : Int) := by omega
    have HM3 : Hid (M3 + lenD d.delta = M2) := hM3
    have hML3 : M3 ≤ M2 := by omega
    have hz3 : ¬ ((M3 : Int) < 0) := by omega
    clear hM3 hy3 l3 T2 b3
    clear T3
    go_wp2
    go_ret
    exact ⟨M3, rfl, .inr ⟨by have e0 := HM0.out; have e1 := HM1.out; have e2 := HM2.out; have e3 := HM3.out; omega, by have e0 := HM0.out; have e1 := HM1.out; have e2 := HM2.out; have e3 := HM3.out; omega⟩, HB3.out⟩
set_option maxHeartbeats 4000000 in
theorem szRecS_is : SzS (layRec.slice 43) (szSl szRecD) 112 := fun v d hi L w h hhi hL => by
  obtain ⟨n, x⟩ := d
  obtain ⟨ao, cap, hv, hm, hc⟩ := h
  cases hv
  simp only at hm hc
  unfold maxLen at hm
  by_cases hnL : L < n
  · clear hc
    have hz : (L : Int) - (n : Int) < 0 := by omega
    go_enter Tryz.func112, Tryz.ntmps112
    go_wp2
    go_ret
    exact ⟨-1, rfl, .inl rfl, Below.refl _ _⟩
  · have hz : ¬ (L : Int) - (n : Int) < 0 := by omega
    go_enter Tryz.func112, Tryz.ntmps112
    go_wp2
    go_loopw [1, 5] (fun y i wr => ∃ k M : Nat, k ≤ n ∧ i = .int .i64 k ∧ y = .int .i64 M ∧ M + n + sumN (fun i => szRecD (x i)) k = L ∧ Below w.heap.size w wr) (fun _ i _ => n - (intOf i).toNat)
    case atStart => exact ⟨0, L - n, Nat.zero_le _, rfl, val_eq (by omega), by simp [sumN]; omega, Below.refl _ _⟩
    case round =>
      obtain ⟨k, M, hk, rfl, rfl, hM, hb⟩ := hrel
      have HM : Hid (M + n + sumN (fun i => szRecD (x i)) k = L) := hM
      have hML : M ≤ L := by omega
      clear hM
      by_cases hlt : k < n
      · obtain ⟨b, off, rfl, hblt, hel⟩ := hc (by omega)
        obtain ⟨ck, hrk, hcell⟩ := elem_rd (t := 0) hel hb hhi hblt hlt
        obtain ⟨ao6, cap6, ao7, cap7, ao8, cap8, rfl, -⟩ := Rec_rd hrk
        have c0 : wr.cell? ⟨b, off + k * 9, none⟩ = some (.int .i64 (x k).kind) := hcell 0 (by decide)
        have c1 : wr.cell? ⟨b, off + k * 9 + 1, none⟩ = some (.int .i64 (x k).seq) := hcell 1 (by decide)
        have c2 : wr.cell? ⟨b, off + k * 9 + 2, none⟩ = some (.string (x k).name) := hcell 2 (by decide)
        have c3 : wr.cell? ⟨b, off + k * 9 + 3, none⟩ = some (.int .i64 (x k).length) := hcell 3 (by decide)
        have c4 : wr.cell? ⟨b, off + k * 9 + 4, none⟩ = some (.int .i64 (x k).group) := hcell 4 (by decide)
        have c5 : wr.cell? ⟨b, off + k * 9 + 5, none⟩ = some (.int .i64 (x k).row) := hcell 5 (by decide)
        have c6 : wr.cell? ⟨b, off + k * 9 + 6, none⟩ = some (.slice ao6 (x k).rows.1 cap6) := hcell 6 (by decide)
        have c7 : wr.cell? ⟨b, off + k * 9 + 7, none⟩ = some (.slice ao7 (x k).data.1 cap7) := hcell 7 (by decide)
        have c8 : wr.cell? ⟨b, off + k * 9 + 8, none⟩ = some (.slice ao8 (x k).delta.1 cap8) := hcell 8 (by decide)
        clear hc hel hcell
        go_wp2_with fail
        refine (szRec_is _ (x k) hi M _ hrk (Nat.le_trans hhi hb.size) (by omega)).mono ?_
        rintro e w2 ⟨y, rfl, s, b2⟩
        have HB : Hid (Below w.heap.size w w2) := hb.trans (b2.mono hb.size)
        clear b2 hb hrk
        rcases s with rfl | ⟨l1, hy⟩
        · go_wp2
          go_ret
          exact ⟨-1, rfl, .inl rfl, HB.out⟩
        · obtain ⟨M', hM'⟩ : ∃ M' : Nat, M' + szRecD (x k) = M := ⟨M - szRecD (x k), by omega⟩
          obtain rfl : y = (M' : Int) := by omega
          have HM' : Hid (M' + szRecD (x k) = M) := hM'
          have hz2 : ¬ ((M' : Int) < 0) := by omega
          clear hM' hy l1
          go_wp2_with fail
          go_roundw
          case rel => exact ⟨k + 1, M', by omega, by go_num, rfl, by
                have e1 := HM.out
                have e2 := HM'.out
                have e3 : sumN (fun i => szRecD (x i)) (k + 1) = sumN (fun i => szRecD (x i)) k + szRecD (x k) := rfl
                omega, HB.out⟩
          case measure => simp [intOf]; omega
      · obtain rfl : k = n := by omega
        go_wp2
        go_ret
        exact ⟨M, rfl, .inr ⟨by
          have e1 := HM.out
          show k + sumN (fun i => szRecD (x i)) k ≤ L
          omega, by
          have e1 := HM.out
          show (M : Int) = (L : Int) - ((k + sumN (fun i => szRecD (x i)) k : Nat) : Int)
          omega⟩, hb⟩
set_option maxHeartbeats 4000000 in
theorem szTape_is : SzV layTape szTapeD 60 := fun cs d hi L w r hhi hL => by
  obtain ⟨ao1, cap1, rfl, r1⟩ := Tape_rd r
  clear r
  unfold szTapeD
  have R1 : Hid ((layRec.slice 43).rd w hi d.recs [.slice ao1 d.recs.1 cap1]) := r1
  clear r1
  go_enter Tryz.func60, Tryz.ntmps60
  go_wp2_with fail
  have T0 := one_new w #[.bool d.wiped, .slice ao1 d.recs.1 cap1] 95
  refine (szRecS_is _ d.recs hi L _ ((layRec.slice 43).rd_below R1.out T0.bel hhi) (Nat.le_trans hhi T0.bel.size) (by omega)).mono ?_
  rintro e w1 ⟨y1, rfl, s1, b1⟩
  have T1 : One w w1 #[.bool d.wiped, .slice ao1 d.recs.1 cap1] 95 := T0.call b1
  have HB1 : Hid (Below w.heap.size w w1) := T1.bel
  rcases s1 with rfl | ⟨l1, hy1⟩
  · clear T1 T0 b1
    go_wp2
    go_ret
    exact ⟨-1, rfl, .inl rfl, HB1.out⟩
  obtain ⟨M1, hM1⟩ : ∃ M : Nat, M + (szSl szRecD) d.recs = L := ⟨L - (szSl szRecD) d.recs, by omega⟩
  obtain rfl : y1 = ((M1 : Nat) : Int) := by omega
  have HM1 : Hid (M1 + (szSl szRecD) d.recs = L) := hM1
  have hML1 : M1 ≤ L := by omega
  have hz1 : ¬ ((M1 : Int) < 0) := by omega
  clear hM1 hy1 l1 T0 b1
  clear T1
  go_wp2
  go_ret
  exact ⟨M1, rfl, .inr ⟨by have e0 := HM1.out; omega, by have e0 := HM1.out; omega⟩, HB1.out⟩
set_option maxHeartbeats 4000000 in
theorem szTapeS_is : SzS (layTape.slice 112) (szSl szTapeD) 25 := fun v d hi L w h hhi hL => by
  obtain ⟨n, x⟩ := d
  obtain ⟨ao, cap, hv, hm, hc⟩ := h
  cases hv
  simp only at hm hc
  unfold maxLen at hm
  by_cases hnL : L < n
  · clear hc
    have hz : (L : Int) - (n : Int) < 0 := by omega
    go_enter Tryz.func25, Tryz.ntmps25
    go_wp2
    go_ret
    exact ⟨-1, rfl, .inl rfl, Below.refl _ _⟩
  · have hz : ¬ (L : Int) - (n : Int) < 0 := by omega
    go_enter Tryz.func25, Tryz.ntmps25
    go_wp2
    go_loopw [1, 5] (fun y i wr => ∃ k M : Nat, k ≤ n ∧ i = .int .i64 k ∧ y = .int .i64 M ∧ M + n + sumN (fun i => szTapeD (x i)) k = L ∧ Below w.heap.size w wr) (fun _ i _ => n - (intOf i).toNat)
    case atStart => exact ⟨0, L - n, Nat.zero_le _, rfl, val_eq (by omega), by simp [sumN]; omega, Below.refl _ _⟩
    case round =>
      obtain ⟨k, M, hk, rfl, rfl, hM, hb⟩ := hrel
      have HM : Hid (M + n + sumN (fun i => szTapeD (x i)) k = L) := hM
      have hML : M ≤ L := by omega
      clear hM
      by_cases hlt : k < n
      · obtain ⟨b, off, rfl, hblt, hel⟩ := hc (by omega)
        obtain ⟨ck, hrk, hcell⟩ := elem_rd (t := 0) hel hb hhi hblt hlt
        obtain ⟨ao1, cap1, rfl, -⟩ := Tape_rd hrk
        have c0 : wr.cell? ⟨b, off + k * 2, none⟩ = some (.bool (x k).wiped) := hcell 0 (by decide)
        have c1 : wr.cell? ⟨b, off + k * 2 + 1, none⟩ = some (.slice ao1 (x k).recs.1 cap1) := hcell 1 (by decide)
        clear hc hel hcell
        go_wp2_with fail
        refine (szTape_is _ (x k) hi M _ hrk (Nat.le_trans hhi hb.size) (by omega)).mono ?_
        rintro e w2 ⟨y, rfl, s, b2⟩
        have HB : Hid (Below w.heap.size w w2) := hb.trans (b2.mono hb.size)
        clear b2 hb hrk
        rcases s with rfl | ⟨l1, hy⟩
        · go_wp2
          go_ret
          exact ⟨-1, rfl, .inl rfl, HB.out⟩
        · obtain ⟨M', hM'⟩ : ∃ M' : Nat, M' + szTapeD (x k) = M := ⟨M - szTapeD (x k), by omega⟩
          obtain rfl : y = (M' : Int) := by omega
          have HM' : Hid (M' + szTapeD (x k) = M) := hM'
          have hz2 : ¬ ((M' : Int) < 0) := by omega
          clear hM' hy l1
          go_wp2_with fail
          go_roundw
          case rel => exact ⟨k + 1, M', by omega, by go_num, rfl, by
                have e1 := HM.out
                have e2 := HM'.out
                have e3 : sumN (fun i => szTapeD (x i)) (k + 1) = sumN (fun i => szTapeD (x i)) k + szTapeD (x k) := rfl
                omega, HB.out⟩
          case measure => simp [intOf]; omega
      · obtain rfl : k = n := by omega
        go_wp2
        go_ret
        exact ⟨M, rfl, .inr ⟨by
          have e1 := HM.out
          show k + sumN (fun i => szTapeD (x i)) k ≤ L
          omega, by
          have e1 := HM.out
          show (M : Int) = (L : Int) - ((k + sumN (fun i => szTapeD (x i)) k : Nat) : Int)
          omega⟩, hb⟩
end Go.Proofs.YthdknhjaohhfiaaGreat

namespace Go.Proofs.YthdknhjaohhfiaaGreat
open Go.RowKit F256
set_option linter.unusedVariables false
set_option linter.unusedSimpArgs false
set_option maxHeartbeats 4000000 in
theorem szWorld_is : SzV layWorld szWorldD 6 := fun cs d hi L w r hhi hL => by
  obtain ⟨ao1, cap1, ao2, cap2, ao3, cap3, rfl, r1, r2, r3, k0, k4, k5⟩ := World_rd r
  clear r
  unfold szWorldD
  have R1 : Hid (((layDrive.slice 106).slice 103).rd w hi d.groups [.slice ao1 d.groups.1 cap1]) := r1
  have R2 : Hid (layInts.rd w hi d.on [.slice ao2 d.on.1 cap2]) := r2
  have R3 : Hid ((layTape.slice 112).rd w hi d.tapes [.slice ao3 d.tapes.1 cap3]) := r3
  clear r1 r2 r3
  go_enter Tryz.func6, Tryz.ntmps6
  go_wp2_with fail
  have T0 := one_new w #[.int .i64 (d.shape 0), .int .i64 (d.shape 1), .int .i64 (d.shape 2), .int .i64 (d.shape 3), .int .i64 (d.shape 4), .int .i64 (d.shape 5), .int .i64 (d.shape 6), .int .i64 (d.shape 7), .int .i64 (d.shape 8), .slice ao1 d.groups.1 cap1, .slice ao2 d.on.1 cap2, .slice ao3 d.tapes.1 cap3, .int .i64 d.writes, .int .i64 d.stop, .bool d.down] 28
  refine (szDriveSS_is _ d.groups hi L _ (((layDrive.slice 106).slice 103).rd_below R1.out T0.bel hhi) (Nat.le_trans hhi T0.bel.size) (by omega)).mono ?_
  rintro e w1 ⟨y1, rfl, s1, b1⟩
  have T1 : One w w1 #[.int .i64 (d.shape 0), .int .i64 (d.shape 1), .int .i64 (d.shape 2), .int .i64 (d.shape 3), .int .i64 (d.shape 4), .int .i64 (d.shape 5), .int .i64 (d.shape 6), .int .i64 (d.shape 7), .int .i64 (d.shape 8), .slice ao1 d.groups.1 cap1, .slice ao2 d.on.1 cap2, .slice ao3 d.tapes.1 cap3, .int .i64 d.writes, .int .i64 d.stop, .bool d.down] 28 := T0.call b1
  have x1_10 : w1.cell? ⟨w.heap.size, 10, none⟩ = some (.slice ao2 d.on.1 cap2) := T1.b1.cell 10
  have HB1 : Hid (Below w.heap.size w w1) := T1.bel
  rcases s1 with rfl | ⟨l1, hy1⟩
  · clear T1 T0 b1
    go_wp2
    go_ret
    exact ⟨-1, rfl, .inl rfl, HB1.out⟩
  obtain ⟨M1, hM1⟩ : ∃ M : Nat, M + (szSl (szSl szDriveD)) d.groups = L := ⟨L - (szSl (szSl szDriveD)) d.groups, by omega⟩
  obtain rfl : y1 = ((M1 : Nat) : Int) := by omega
  have HM1 : Hid (M1 + (szSl (szSl szDriveD)) d.groups = L) := hM1
  have hML1 : M1 ≤ L := by omega
  have hz1 : ¬ ((M1 : Int) < 0) := by omega
  clear hM1 hy1 l1 T0 b1
  go_wp2_with fail
  refine (szInts_is _ d.on hi M1 _ (layInts.rd_below R2.out T1.bel hhi) (Nat.le_trans hhi T1.bel.size) (by omega)).mono ?_
  rintro e w2 ⟨y2, rfl, s2, b2⟩
  have T2 : One w w2 #[.int .i64 (d.shape 0), .int .i64 (d.shape 1), .int .i64 (d.shape 2), .int .i64 (d.shape 3), .int .i64 (d.shape 4), .int .i64 (d.shape 5), .int .i64 (d.shape 6), .int .i64 (d.shape 7), .int .i64 (d.shape 8), .slice ao1 d.groups.1 cap1, .slice ao2 d.on.1 cap2, .slice ao3 d.tapes.1 cap3, .int .i64 d.writes, .int .i64 d.stop, .bool d.down] 28 := T1.call b2
  have x2_11 : w2.cell? ⟨w.heap.size, 11, none⟩ = some (.slice ao3 d.tapes.1 cap3) := T2.b1.cell 11
  have HB2 : Hid (Below w.heap.size w w2) := T2.bel
  rcases s2 with rfl | ⟨l2, hy2⟩
  · clear T2 T1 b2
    go_wp2
    go_ret
    exact ⟨-1, rfl, .inl rfl, HB2.out⟩
  obtain ⟨M2, hM2⟩ : ∃ M : Nat, M + lenD d.on = M1 := ⟨M1 - lenD d.on, by omega⟩
  obtain rfl : y2 = ((M2 : Nat) : Int) := by omega
  have HM2 : Hid (M2 + lenD d.on = M1) := hM2
  have hML2 : M2 ≤ M1 := by omega
  have hz2 : ¬ ((M2 : Int) < 0) := by omega
  clear hM2 hy2 l2 T1 b2
  go_wp2_with fail
  refine (szTapeS_is _ d.tapes hi M2 _ ((layTape.slice 112).rd_below R3.out T2.bel hhi) (Nat.le_trans hhi T2.bel.size) (by omega)).mono ?_
  rintro e w3 ⟨y3, rfl, s3, b3⟩
  have T3 : One w w3 #[.int .i64 (d.shape 0), .int .i64 (d.shape 1), .int .i64 (d.shape 2), .int .i64 (d.shape 3), .int .i64 (d.shape 4), .int .i64 (d.shape 5), .int .i64 (d.shape 6), .int .i64 (d.shape 7), .int .i64 (d.shape 8), .slice ao1 d.groups.1 cap1, .slice ao2 d.on.1 cap2, .slice ao3 d.tapes.1 cap3, .int .i64 d.writes, .int .i64 d.stop, .bool d.down] 28 := T2.call b3
  have HB3 : Hid (Below w.heap.size w w3) := T3.bel
  rcases s3 with rfl | ⟨l3, hy3⟩
  · clear T3 T2 b3
    go_wp2
    go_ret
    exact ⟨-1, rfl, .inl rfl, HB3.out⟩
  obtain ⟨M3, hM3⟩ : ∃ M : Nat, M + (szSl szTapeD) d.tapes = M2 := ⟨M2 - (szSl szTapeD) d.tapes, by omega⟩
  obtain rfl : y3 = ((M3 : Nat) : Int) := by omega
  have HM3 : Hid (M3 + (szSl szTapeD) d.tapes = M2) := hM3
  have hML3 : M3 ≤ M2 := by omega
  have hz3 : ¬ ((M3 : Int) < 0) := by omega
  clear hM3 hy3 l3 T2 b3
  clear T3
  go_wp2
  go_ret
  exact ⟨M3, rfl, .inr ⟨by have e0 := HM1.out; have e1 := HM2.out; have e2 := HM3.out; omega, by have e0 := HM1.out; have e1 := HM2.out; have e2 := HM3.out; omega⟩, HB3.out⟩
end Go.Proofs.YthdknhjaohhfiaaGreat

namespace Go.Proofs.YthdknhjaohhfiaaGreat
open Go.RowKit F256
set_option linter.unusedVariables false
set_option linter.unusedSimpArgs false

/-- the bytes of a string -/
def nameByte (b : ByteArray) (i : Nat) : Nat := if h : i < b.size then (b[i]'h).toNat else 0
theorem index_name (b : ByteArray) (i : Nat) (h : i < b.size) (w : World) : (Instr.index 9 (.string b) (.int .i64 (i : Int))).run Tryz.prog w = .ok (.int .u8 (nameByte b i)) w := by
  rw [run_index_string w 9 b .i64 (i : Int) Tryz.underlying9, dif_pos ⟨by omega, by omega⟩]
  simp [nameByte, h]
def LetP (y : Nat) : Prop := 97 ≤ y ∧ y ≤ 122
def DigP (y : Nat) : Prop := 48 ≤ y ∧ y ≤ 57
/-- a name that has no fault -/
def OkName (b : ByteArray) : Prop := 1 ≤ b.size ∧ b.size ≤ 8 ∧ LetP (nameByte b 0) ∧ ∀ i, i < b.size → LetP (nameByte b i) ∨ DigP (nameByte b i)
def NmAns (b : ByteArray) (x : Int) : Prop := (x = 5 ∧ ¬ OkName b) ∨ (x = 0 ∧ OkName b)
theorem NmAns.one {b : ByteArray} {x y : Int} (h : NmAns b x) (k : NmAns b y) : x = y := by
  rcases h with ⟨rfl, h⟩ | ⟨rfl, h⟩ <;> rcases k with ⟨rfl, k⟩ | ⟨rfl, k⟩ <;> first | rfl | exact absurd h k | exact absurd k h

set_option maxHeartbeats 4000000 in
theorem specName_any (b : ByteArray) (hb : b.size ≤ 1048576) (w : World) :
    Calls Tryz.prog 65 #[.string b] w fun e w' => ∃ x, e = .returned (.int .i64 x) ∧ NmAns b x ∧ w' = w := by
  by_cases h1 : 1 ≤ b.size
  · have t1 : decide ((b.size : Int) < 1) = false := by simp; omega
    have t1n : decide (b.size < 1) = false := decide_eq_false (by omega)
    have t1z : decide (b.size = 0) = false := decide_eq_false (by omega)
    by_cases h2 : b.size ≤ 8
    · have t2 : decide ((8 : Int) < (b.size : Int)) = false := by simp; omega
      have t2n : decide (8 < b.size) = false := by simp; omega
      have hix := index_name b 0 h1
      have e0 : ((0 : Nat) : Int) = 0 := rfl
      rw [e0] at hix
      obtain ⟨y, hy⟩ : ∃ y, y = nameByte b 0 := ⟨_, rfl⟩
      rw [← hy] at hix
      have HY : Hid (y = nameByte b 0) := hy
      clear e0 hy
      by_cases h3 : y < 97
      · have HN : Hid (¬ OkName b) := fun h => by have := h.2.2.1.1; rw [← HY.out] at this; omega
        have t3 : decide ((y : Int) < 97) = true := by simp; omega
        go_enter Tryz.func65, Tryz.ntmps65
        go_wp2
        go_ret
        exact ⟨5, rfl, .inl ⟨rfl, HN.out⟩, rfl⟩
      · have t3 : decide ((y : Int) < 97) = false := by simp; omega
        have t3n : decide (y < 97) = false := by simp; omega
        by_cases h4 : 122 < y
        · have HN : Hid (¬ OkName b) := fun h => by have := h.2.2.1.2; rw [← HY.out] at this; omega
          have t4 : decide ((122 : Int) < (y : Int)) = true := by simp; omega
          clear h3
          go_enter Tryz.func65, Tryz.ntmps65
          go_wp2
          go_ret
          exact ⟨5, rfl, .inl ⟨rfl, HN.out⟩, rfl⟩
        · have t4 : decide ((122 : Int) < (y : Int)) = false := by simp; omega
          have t4n : decide (122 < y) = false := by simp; omega
          have HL : Hid (LetP (nameByte b 0)) := by show LetP (nameByte b 0); rw [← HY.out]; exact ⟨by omega, by omega⟩
          clear h3 h4
          go_enter Tryz.func65, Tryz.ntmps65
          go_wp2
          go_loop [3] (fun i => ∃ k : Nat, k ≤ b.size ∧ i = .int .i64 k ∧ ∀ i, i < k → LetP (nameByte b i) ∨ DigP (nameByte b i)) (fun i => b.size - (intOf i).toNat)
          case atStart => exact ⟨0, Nat.zero_le _, rfl, fun i hi => by omega⟩
          case round =>
            obtain ⟨k, hk, rfl, hall⟩ := hrel
            have HALL : Hid (∀ i, i < k → LetP (nameByte b i) ∨ DigP (nameByte b i)) := hall
            clear hall
            by_cases hlt : k < b.size
            · have hik := index_name b k hlt
              obtain ⟨z, hz⟩ : ∃ z, z = nameByte b k := ⟨_, rfl⟩
              rw [← hz] at hik
              have HZ : Hid (z = nameByte b k) := hz
              clear hz
              by_cases c1 : z < 97
              · have s1 : decide ((z : Int) < 97) = true := by simp; omega
                by_cases c3 : z < 48
                · have s3 : decide ((z : Int) < 48) = true := by simp; omega
                  have HN : Hid (¬ OkName b) := fun h => by
                    have := h.2.2.2 k hlt
                    rw [← HZ.out] at this
                    unfold LetP DigP at this
                    omega
                  go_wp2
                  go_ret
                  exact ⟨5, rfl, .inl ⟨rfl, HN.out⟩, rfl⟩
                · have s3 : decide ((z : Int) < 48) = false := by simp; omega
                  have s3n : decide (z < 48) = false := by simp; omega
                  by_cases c4 : 57 < z
                  · have s4 : decide ((57 : Int) < (z : Int)) = true := by simp; omega
                    have HN : Hid (¬ OkName b) := fun h => by
                      have := h.2.2.2 k hlt
                      rw [← HZ.out] at this
                      unfold LetP DigP at this
                      omega
                    clear c3
                    go_wp2
                    go_ret
                    exact ⟨5, rfl, .inl ⟨rfl, HN.out⟩, rfl⟩
                  · have s4 : decide ((57 : Int) < (z : Int)) = false := by simp; omega
                    have s4n : decide (57 < z) = false := by simp; omega
                    have HD : Hid (DigP (nameByte b k)) := by show DigP (nameByte b k); rw [← HZ.out]; exact ⟨by omega, by omega⟩
                    clear c3 c4
                    go_wp2
                    go_round
                    case rel => exact ⟨k + 1, by omega, by go_num, fun i hi => by
                                  by_cases c : i = k
                                  · right; rw [c]; exact HD.out
                                  · exact HALL.out i (by omega)⟩
                    case measure => simp [intOf]; omega
              · have s1 : decide ((z : Int) < 97) = false := by simp; omega
                have s1n : decide (z < 97) = false := by simp; omega
                by_cases c2 : 122 < z
                · have s2 : decide ((122 : Int) < (z : Int)) = true := by simp; omega
                  have s3 : decide ((z : Int) < 48) = false := by simp; omega
                  have s3n : decide (z < 48) = false := by simp; omega
                  have s4 : decide ((57 : Int) < (z : Int)) = true := by simp; omega
                  have HN : Hid (¬ OkName b) := fun h => by
                    have := h.2.2.2 k hlt
                    rw [← HZ.out] at this
                    unfold LetP DigP at this
                    omega
                  clear c1
                  go_wp2
                  go_ret
                  exact ⟨5, rfl, .inl ⟨rfl, HN.out⟩, rfl⟩
                · have s2 : decide ((122 : Int) < (z : Int)) = false := by simp; omega
                  have s2n : decide (122 < z) = false := by simp; omega
                  have HD : Hid (LetP (nameByte b k)) := by show LetP (nameByte b k); rw [← HZ.out]; exact ⟨by omega, by omega⟩
                  clear c1 c2
                  go_wp2
                  go_round
                  case rel => exact ⟨k + 1, by omega, by go_num, fun i hi => by
                                by_cases c : i = k
                                · left; rw [c]; exact HD.out
                                · exact HALL.out i (by omega)⟩
                  case measure => simp [intOf]; omega
            · obtain rfl : k = b.size := by omega
              have HY2 : Hid (OkName b) := ⟨h1, h2, HL.out, HALL.out⟩
              go_wp2
              go_ret
              exact ⟨0, rfl, .inr ⟨rfl, HY2.out⟩, rfl⟩
    · have HN : Hid (¬ OkName b) := fun h => h2 h.2.1
      have t2 : decide ((8 : Int) < (b.size : Int)) = true := by simp; omega
      have t2i : (8 : Int) < (b.size : Int) := by omega
      clear h2
      go_enter Tryz.func65, Tryz.ntmps65
      go_wp2
      go_ret
      exact ⟨5, rfl, .inl ⟨rfl, HN.out⟩, rfl⟩
  · have HN : Hid (¬ OkName b) := fun h => h1 h.1
    have t1 : decide ((b.size : Int) < 1) = true := by simp; omega
    have t1i : (b.size : Int) < 1 := by omega
    clear h1
    go_enter Tryz.func65, Tryz.ntmps65
    go_wp2
    go_ret
    exact ⟨5, rfl, .inl ⟨rfl, HN.out⟩, rfl⟩
end Go.Proofs.YthdknhjaohhfiaaGreat

namespace Go.Proofs.YthdknhjaohhfiaaGreat
open Go.RowKit F256
set_option linter.unusedVariables false

def InP (x a b : Int) : Prop := a ≤ x ∧ x ≤ b
/-- numbers from 0 to most, no two alike -/
def ApartP (n : Nat) (g : Nat → Int) (most : Int) : Prop := ∀ i, i < n → InP (g i) 0 most ∧ ∀ t, t < i → g t ≠ g i
def ItemP (s : Nat → Int) (r : RecD) : Prop :=
  (r.length = -1 ∧ r.data.1 = 0 ∧ r.rows.1 = 0) ∨
  (r.length ≠ -1 ∧ 1 ≤ r.length ∧ r.length ≤ 3 * (s 2 * 4) ∧
    ((0 < r.data.1 ∧ (r.data.1 : Int) = r.length ∧ r.rows.1 = 0) ∨
     (r.data.1 = 0 ∧ (r.rows.1 : Int) = (r.length + s 2 * 4 - 1) / (s 2 * 4) ∧ ApartP r.rows.1 r.rows.2 (s 4 - 1))))
def MoveP (s : Nat → Int) (r : RecD) : Prop := InP r.group 0 (s 0 - 1) ∧ InP r.row 0 (s 4 - 1) ∧ (r.data.1 : Int) = s 2 * 4 ∧ (r.delta.1 : Int) = s 2 * 4
def DoneP (s : Nat → Int) (r : RecD) : Prop := InP r.group 0 (s 0 + s 1 - 1)
def WeightsP (s : Nat → Int) (r : RecD) : Prop := (r.delta.1 : Int) = s 0 + s 1 ∧ r.delta.2 r.group.toNat = 0 ∧ ∀ i, i < r.rows.1 → r.delta.2 (r.rows.2 i).toNat ≠ 0
def ShareP (s : Nat → Int) (r : RecD) : Prop := InP r.group 0 (s 0 + s 1 - 1) ∧ InP r.row 0 (s 4 - 1) ∧ RiseP r.rows.1 r.rows.2 (s 0 + s 1 - 1) ∧ (r.data.1 : Int) = s 2 * 4 ∧ WeightsP s r
def KindP (s : Nat → Int) (r : RecD) : Prop := (r.kind = 1 ∧ ItemP s r) ∨ (r.kind = 2 ∧ MoveP s r) ∨ (r.kind = 3 ∧ DoneP s r) ∨ (r.kind = 4 ∧ ShareP s r)
def noName (r : RecD) : Prop := r.name = ByteArray.empty ∧ r.length = 0
def BlankP (r : RecD) : Prop :=
  (r.kind = 1 ∧ r.group = 0 ∧ r.row = 0 ∧ r.delta.1 = 0) ∨ (r.kind = 2 ∧ noName r ∧ r.rows.1 = 0) ∨
  (r.kind = 3 ∧ noName r ∧ r.row = 0 ∧ r.rows.1 = 0 ∧ r.data.1 = 0 ∧ r.delta.1 = 0) ∨ (r.kind = 4 ∧ noName r)
def NamedP (r : RecD) : Prop := r.kind = 1 → OkName r.name
/-- codes asked one behind the other: the first that falls is told; behind them all K -/
def Stair : List (Prop × Int) → (Int → Prop) → Int → Prop
  | [], K, x => K x
  | (p, c) :: l, K, x => (¬ p ∧ x = c) ∨ (p ∧ Stair l K x)
theorem Stair.fall {p : Prop} {c : Int} {l : List (Prop × Int)} {K : Int → Prop} (h : ¬ p) : Stair ((p, c) :: l) K c := .inl ⟨h, rfl⟩
theorem Stair.pass {p : Prop} {c : Int} {l : List (Prop × Int)} {K : Int → Prop} {x : Int} (h : p) (k : Stair l K x) : Stair ((p, c) :: l) K x := .inr ⟨h, k⟩
theorem Stair.last {K : Int → Prop} {x : Int} (h : K x) : Stair [] K x := h
theorem Stair.one {K : Int → Prop} (hK : ∀ x y, K x → K y → x = y) : ∀ (l : List (Prop × Int)) {x y : Int}, Stair l K x → Stair l K y → x = y
  | [], x, y, h, k => hK x y h k
  | (p, c) :: l, x, y, h, k => by
    rcases h with ⟨h1, h2⟩ | ⟨h1, h2⟩ <;> rcases k with ⟨k1, k2⟩ | ⟨k1, k2⟩
    · rw [h2, k2]
    · exact absurd k1 h1
    · exact absurd h1 k1
    · exact Stair.one hK l h2 k2
def isZ (x : Int) : Prop := x = 0
theorem isZ_one (x y : Int) (h : isZ x) (k : isZ y) : x = y := by rw [show x = 0 from h, show y = 0 from k]
/-- what RecFault tells -/
def RecAns (s : Nat → Int) (r : RecD) (x : Int) : Prop :=
  Stair [(OkShape s, 3), (InP r.kind 1 4, 5), (InP r.seq 1 1000000000, 3), (NamedP r, 5), (KindP s r, 3), (BlankP r, 1)] isZ x
theorem RecAns.one {s : Nat → Int} {r : RecD} {x y : Int} (h : RecAns s r x) (k : RecAns s r y) : x = y := Stair.one isZ_one _ h k

/-- groups, drives and blocks as the shape has them -/
def BlockP (b : BlockD) : Prop := InP b.stamp 0 1000000000 ∧ b.bytes.1 = 4
def BlocksP (s : Nat → Int) (p : Nat × (Nat → BlockD)) : Prop := (p.1 : Int) = s 4 ∧ ∀ i, i < p.1 → BlockP (p.2 i)
def DrivesP (s : Nat → Int) (p : Nat × (Nat → DriveD)) : Prop := (p.1 : Int) = s 2 + s 3 ∧ ∀ i, i < p.1 → BlocksP s (p.2 i).blocks
def BuiltP (d : WorldD) : Prop := (d.groups.1 : Int) = d.shape 0 + d.shape 1 ∧ ∀ i, i < d.groups.1 → DrivesP d.shape (d.groups.2 i)
def OnP (d : WorldD) : Prop := ApartP d.on.1 d.on.2 (d.shape 0 + d.shape 1 - 1) ∧ (d.on.1 : Int) ≤ d.shape 5 ∧ (d.down = true → d.on.1 = 0)
def FormP (d : WorldD) : Prop := BuiltP d ∧ OnP d ∧ d.tapes.1 = 2
def FewP (d : WorldD) : Prop := ∀ t, t < d.tapes.1 → (d.tapes.2 t).recs.1 ≤ 200
/-- the first record that has a fault -/
def RecsAns (s : Nat → Int) (n : Nat) (x : Nat → TapeD) (c : Int) : Prop :=
  (c = 0 ∧ ∀ t, t < n → ∀ i, i < (x t).recs.1 → RecAns s ((x t).recs.2 i) 0) ∨
  (c ≠ 0 ∧ ∃ t i, t < n ∧ i < (x t).recs.1 ∧ RecAns s ((x t).recs.2 i) c ∧ (∀ k, k < i → RecAns s ((x t).recs.2 k) 0) ∧ ∀ u, u < t → ∀ k, k < (x u).recs.1 → RecAns s ((x u).recs.2 k) 0)
theorem RecsAns.one {s : Nat → Int} {n : Nat} {x : Nat → TapeD} {c e : Int} (h : RecsAns s n x c) (k : RecsAns s n x e) : c = e := by
  rcases h with ⟨rfl, h⟩ | ⟨hc, t, i, ht, hi, hr, hb, hu⟩ <;> rcases k with ⟨rfl, k⟩ | ⟨kc, t', i', kt, ki, kr, kb, ku⟩
  · rfl
  · exact absurd (kr.one (h t' kt i' ki)) kc
  · exact absurd (hr.one (k t ht i hi)) hc
  · rcases Nat.lt_trichotomy t t' with c1 | c1 | c1
    · exact absurd (hr.one (ku t c1 i hi)) hc
    · subst c1
      rcases Nat.lt_trichotomy i i' with c2 | c2 | c2
      · exact absurd (hr.one (kb i c2)) hc
      · subst c2; exact hr.one kr
      · exact absurd (kr.one (hb i' c2)) kc
    · exact absurd (kr.one (hu t' c1 i' ki)) kc
def CleanP (d : WorldD) : Prop := ∀ t, t < d.tapes.1 → (d.tapes.2 t).wiped = true → (d.tapes.2 t).recs.1 = 0
def CountP (d : WorldD) : Prop := InP d.writes 0 1000000000 ∧ InP d.stop (-1) 1000000000
/-- what WorldFault tells -/
def WldAns (d : WorldD) (x : Int) : Prop :=
  Stair [(OkShape d.shape, 3), (FormP d, 1), (FewP d, 2)] (fun x => (x ≠ 0 ∧ RecsAns d.shape d.tapes.1 d.tapes.2 x) ∨ (RecsAns d.shape d.tapes.1 d.tapes.2 0 ∧ Stair [(CleanP d, 1), (CountP d, 3)] isZ x)) x
theorem WldAns.one {d : WorldD} {x y : Int} (h : WldAns d x) (k : WldAns d y) : x = y := by
  refine Stair.one (fun x y h k => ?_) _ h k
  rcases h with ⟨h1, h2⟩ | ⟨h1, h2⟩ <;> rcases k with ⟨k1, k2⟩ | ⟨k1, k2⟩
  · exact h2.one k2
  · exact absurd (h2.one k1) h1
  · exact absurd (k2.one h1) k1
  · exact Stair.one isZ_one _ h2 k2
/-- a world without a fault -/
structure OkWorld (d : WorldD) : Prop where
  shape : OkShape d.shape
  form : FormP d
  few : FewP d
  recs : ∀ t, t < d.tapes.1 → ∀ i, i < (d.tapes.2 t).recs.1 → RecAns d.shape ((d.tapes.2 t).recs.2 i) 0
  clean : CleanP d
  count : CountP d
theorem WldAns.ok {d : WorldD} (h : WldAns d 0) : OkWorld d := by
  rcases h with ⟨_, h⟩ | ⟨h1, h⟩
  · omega
  rcases h with ⟨_, h⟩ | ⟨h2, h⟩
  · omega
  rcases h with ⟨_, h⟩ | ⟨h3, h⟩
  · omega
  rcases h with ⟨h, _⟩ | ⟨h4, h⟩
  · exact absurd rfl h
  rcases h with ⟨_, h⟩ | ⟨h5, h⟩
  · omega
  rcases h with ⟨_, h⟩ | ⟨h6, h⟩
  · omega
  rcases h4 with ⟨_, h4⟩ | ⟨h4, _⟩
  · exact ⟨h1, h2, h3, h4, h5, h6⟩
  · exact absurd rfl h4
theorem exB (P : Prop) : ∃ b : Bool, b = true ↔ P := by
  by_cases h : P
  · exact ⟨true, by simp [h]⟩
  · exact ⟨false, by simp [h]⟩
end Go.Proofs.YthdknhjaohhfiaaGreat

namespace Go.Proofs.YthdknhjaohhfiaaGreat
open Go.RowKit F256

/-- a result with a number in it -/
def intR (code value : Int) : Value := .agg #[.int .i64 code, .int .i64 value]

end Go.Proofs.YthdknhjaohhfiaaGreat

namespace Go.Proofs.YthdknhjaohhfiaaGreat
open Go.RowKit F256
set_option linter.unusedVariables false
set_option linter.unusedSimpArgs false

set_option maxHeartbeats 1000000 in
theorem l1Has_any (v : Value) (n : Nat) (g : Nat → Int) (hi : Nat) (x : Int) (w : World) (r : RdI w hi v n g) :
    Calls Tryz.prog 62 #[v, .int .i64 x] w (BoolP (HasP n g x) w) := by
  obtain ⟨ao, cap, rfl, hm, hc⟩ := r
  unfold maxLen at hm
  go_enter Tryz.func62, Tryz.ntmps62
  go_wp2
  go_loop [5] (fun i => ∃ k : Nat, k ≤ n ∧ i = .int .i64 k ∧ ∀ i, i < k → g i ≠ x) (fun i => n - (intOf i).toNat)
  case atStart => exact ⟨0, Nat.zero_le _, rfl, fun i hi => by omega⟩
  case round =>
    obtain ⟨k, hk, rfl, hall⟩ := hrel
    have HALL : Hid (∀ i, i < k → g i ≠ x) := hall
    clear hall
    by_cases hlt : k < n
    · obtain ⟨b, off, rfl, hblt, hcell⟩ := hc (by omega)
      have hck : w.cell? ⟨b, off + k, none⟩ = some (.int .i64 (g k)) := hcell k hlt
      obtain ⟨y, hy⟩ : ∃ y, y = g k := ⟨_, rfl⟩
      have HY : Hid (y = g k) := hy
      rw [← hy] at hck
      clear hc hcell hy
      by_cases heq : y = x
      · have tn : (y == x) = true := by simp [heq]
        have HE : Hid (y = x) := heq
        clear heq
        go_wp2
        go_ret
        exact boolYes rfl ⟨k, hlt, by rw [← HY.out]; exact HE.out⟩ (Below.refl _ _)
      · have tn : (y == x) = false := by simp [heq]
        have HE : Hid (y ≠ x) := heq
        clear heq
        go_wp2
        go_round
        case rel => exact ⟨k + 1, by omega, by go_num, fun i hi => by
                      by_cases c : i = k
                      · rw [c, ← HY.out]; exact HE.out
                      · exact HALL.out i (by omega)⟩
        case measure => simp [intOf]; omega
    · obtain rfl : k = n := by omega
      go_wp2
      go_ret
      exact boolNo rfl (fun ⟨i, hi, h⟩ => HALL.out i hi h) (Below.refl _ _)
end Go.Proofs.YthdknhjaohhfiaaGreat
