/- Marks: what the walks of them lean on. -/
import Derived.Test.YtbmfndjglndnlaaGreatCells
import Derived.Deep.RegionLaw
namespace Go.Proofs.YtbmfndjglndnlaaGreat
open Go.RowKit F256
theorem b3_eq (J : Nat) : ((J : Int) % 3 == 0) = decide (J % 3 = 0) := by
  by_cases h : J % 3 = 0
  · have : (J : Int) % 3 = 0 := by omega
    simp [h, this]
  · have : ¬ (J : Int) % 3 = 0 := by omega
    simp [h, this]
end Go.Proofs.YtbmfndjglndnlaaGreat

namespace Go.Proofs.YtbmfndjglndnlaaGreat
open Go.RowKit F256
set_option linter.unusedVariables false
set_option linter.unusedSimpArgs false
set_option maxHeartbeats 8000000 in
theorem markBlockS_is : MkS (layBlock.slice 46) (cSl cBlockD) (mkSl cBlockD mkBlockD) 121 := fun v d L j w h nd hj => by
  obtain ⟨n, x⟩ := d
  by_cases h0 : n = 0
  · subst h0
    have hown : (layBlock.slice 46).own w (mkSl cBlockD mkBlockD j (0, x)) [v] L := slice_congr h rfl (fun i hi => absurd hi (Nat.not_lt_zero i))
    obtain ⟨ao, cap, hv⟩ := sl_formO h
    obtain rfl := one_eq hv
    clear h hv
    go_enter Tryz.func121, Tryz.ntmps121
    go_wp2
    go_loopw [1, 5] (fun y i wr => y = .int .i64 j ∧ i = .int .i64 0 ∧ wr = w) (fun _ _ _ => 0)
    case atStart => exact ⟨rfl, rfl, rfl⟩
    case round =>
      obtain ⟨rfl, rfl, rfl⟩ := hrel
      go_wp2
      go_ret
      exact ⟨ret_eq (by simp [cSl, sumN]), hown, ChgL.refl _ _⟩
  · obtain ⟨g, cap, ce, Ls, hv, rfl, so⟩ := slice_form h h0
    obtain rfl := one_eq hv
    obtain ⟨_, _, _, hm, _⟩ := (layBlock.slice 46).own_rd (hi := w.heap.size) h ((layBlock.slice 46).own_lt h)
    simp only at hm
    unfold maxLen at hm
    clear h hv
    simp only at so nd
    have hj' : j + sumN (fun i => cBlockD (x i)) n ≤ 100000000 := hj
    clear hj
    have ND : Hid ((g :: catN n Ls).Nodup) := nd
    clear nd
    go_enter Tryz.func121, Tryz.ntmps121
    go_wp2
    go_loopw [1, 5] (fun y i wr => ∃ k : Nat, k ≤ n ∧ i = .int .i64 k ∧ y = .int .i64 ((j + sumN (fun i => cBlockD (x i)) k : Nat) : Int) ∧ ∃ ce, SlO layBlock 46 wr g cap n (mkTo cBlockD mkBlockD j x k) ce Ls ∧ ChgL (g :: catN n Ls) w wr) (fun _ i _ => n - (intOf i).toNat)
    case atStart => exact ⟨0, Nat.zero_le _, rfl, rfl, ce, by rw [mkTo_zero]; exact so, ChgL.refl _ _⟩
    case round =>
      clear so
      obtain ⟨k, hk, rfl, rfl, ce, so, ch⟩ := hrel
      by_cases hlt : k < n
      · have S0 := so.at_ k
        rw [mkTo_at] at S0
        obtain ⟨ao1, cap1, K1, hcs, hL, o1, k0⟩ := Block_own (S0.own hlt)
        rw [hcs] at S0
        have HL : Hid (Ls k = K1) := hL
        have hgn := not_in ND.out hlt
        have hnd := nodup_at ND.out k hlt
        rw [hL] at hgn hnd
        have hs1 : sumN (fun i => cBlockD (x i)) (k + 1) ≤ sumN (fun i => cBlockD (x i)) n := sumN_mono _ (show k + 1 ≤ n from hlt)
        rw [sumN_succ] at hs1
        obtain ⟨J, hJ⟩ : ∃ J, J = j + sumN (fun i => cBlockD (x i)) k := ⟨_, rfl⟩
        have hJb : J + cBlockD (x k) ≤ 100000000 := by omega
        have HJ : Hid (J = j + sumN (fun i => cBlockD (x i)) k) := hJ
        rw [← hJ]
        clear hs1 hJ hL hcs so
        unfold cBlockD at hJb
        have CH : Hid (ChgL (g :: catN n Ls) w wr) := ch
        clear ch
        have O1 : Hid (layBytes.own wr (x k).bytes [.slice ao1 (x k).bytes.1 cap1] K1) := o1
        clear o1
        have Q0 : Hid ((-9223372036854775808 ≤ (x k).stamp ∧ (x k).stamp ≤ 9223372036854775807)) := k0
        clear k0
        have c0_0 : wr.cell? ⟨g, k * 2, none⟩ = some (.int .i64 (x k).stamp) := S0.cell hlt (show 0 < layBlock.sz by decide)
        have f0_0 := S0.frozen (k * 2)
        have c0_1 : wr.cell? ⟨g, k * 2 + 1, none⟩ = some (.slice ao1 (x k).bytes.1 cap1) := S0.cell hlt (show 1 < layBlock.sz by decide)
        have f0_1 := S0.frozen (k * 2 + 1)
        go_wp2_with fail
        have S1 : SlK layBlock 46 (wr.setCell ⟨g, k * 2, none⟩ (.int .i64 (((J : Nat)) : Int))) g cap n (mkTo cBlockD mkBlockD j x k) ce Ls k ⟨(((J : Nat)) : Int), (x k).bytes⟩ [.int .i64 (((J : Nat)) : Int), .slice ao1 (x k).bytes.1 cap1] := S0.store ND.out hlt (show 0 < layBlock.sz by decide) (.int .i64 (((J : Nat)) : Int)) (by rw [HL.out]; exact Block_mk ⟨(((J : Nat)) : Int), (x k).bytes⟩ (O1.out) ((show -9223372036854775808 ≤ (((J : Nat)) : Int) ∧ (((J : Nat)) : Int) ≤ 9223372036854775807 by omega)))
        refine (markBytes_is _ (x k).bytes K1 (J + 1) _ (own_setg (O1.out) hgn) hnd (by omega)).mono ?_
        rintro e v1 ⟨rfl, p1, q1⟩
        have OO1_1 : Hid (layBytes.own v1 (mkBytes (J + 1) (x k).bytes) [.slice ao1 (x k).bytes.1 cap1] K1) := p1
        have SUB1 : ∀ b, b ∈ K1 → b ∈ Ls k := fun b hb => by rw [HL.out]; exact hb
        have S2 : SlK layBlock 46 v1 g cap n (mkTo cBlockD mkBlockD j x k) ce Ls k ⟨(((J : Nat)) : Int), (mkBytes (J + 1) (x k).bytes)⟩ [.int .i64 (((J : Nat)) : Int), .slice ao1 (x k).bytes.1 cap1] := S1.into ND.out hlt (q1.mono (SUB1)) (by rw [HL.out]; exact Block_mk ⟨(((J : Nat)) : Int), (mkBytes (J + 1) (x k).bytes)⟩ (OO1_1.out) ((show -9223372036854775808 ≤ (((J : Nat)) : Int) ∧ (((J : Nat)) : Int) ≤ 9223372036854775807 by omega)))
        have CH1 : Hid (ChgL (g :: catN n Ls) w v1) := ((CH.out).st g _ _ (List.mem_cons_self ..)).sub q1 (fun b hb => SlO.sub k hlt b ((SUB1) b hb))
        have FS : SlO layBlock 46 v1 g cap n (upd (mkTo cBlockD mkBlockD j x k) k (mkBlockD J (x k))) (upd ce k [.int .i64 (((J : Nat)) : Int), .slice ao1 (x k).bytes.1 cap1]) Ls := S2
        rw [HJ.out, mkTo_next] at FS
        have FS' : Hid (∃ ce, SlO layBlock 46 v1 g cap n (mkTo cBlockD mkBlockD j x (k + 1)) ce Ls) := ⟨_, FS⟩
        clear FS p1 q1
        go_wp2_with fail
        go_roundw
        case rel =>
          obtain ⟨ce', FS⟩ := FS'.out
          exact ⟨k + 1, by omega, by go_num, val_eq (by
            have e1 := HJ.out
            have e2 : sumN (fun i => cBlockD (x i)) (k + 1) = sumN (fun i => cBlockD (x i)) k + cBlockD (x k) := rfl
            have e3 : cBlockD (x k) = 1 + lenD (x k).bytes := rfl
            omega), ce', FS, CH1.out⟩
        case measure => simp [intOf]; omega
      · obtain rfl : k = n := by omega
        go_wp2
        go_ret
        exact ⟨rfl, (so.congr (fun i hi => mkTo_done cBlockD mkBlockD j x k i hi)).own, ch⟩
set_option maxHeartbeats 8000000 in
theorem markDriveS_is : MkS (layDrive.slice 84) (cSl cDriveD) (mkSl cDriveD mkDriveD) 87 := fun v d L j w h nd hj => by
  obtain ⟨n, x⟩ := d
  by_cases h0 : n = 0
  · subst h0
    have hown : (layDrive.slice 84).own w (mkSl cDriveD mkDriveD j (0, x)) [v] L := slice_congr h rfl (fun i hi => absurd hi (Nat.not_lt_zero i))
    obtain ⟨ao, cap, hv⟩ := sl_formO h
    obtain rfl := one_eq hv
    clear h hv
    go_enter Tryz.func87, Tryz.ntmps87
    go_wp2
    go_loopw [1, 5] (fun y i wr => y = .int .i64 j ∧ i = .int .i64 0 ∧ wr = w) (fun _ _ _ => 0)
    case atStart => exact ⟨rfl, rfl, rfl⟩
    case round =>
      obtain ⟨rfl, rfl, rfl⟩ := hrel
      go_wp2
      go_ret
      exact ⟨ret_eq (by simp [cSl, sumN]), hown, ChgL.refl _ _⟩
  · obtain ⟨g, cap, ce, Ls, hv, rfl, so⟩ := slice_form h h0
    obtain rfl := one_eq hv
    obtain ⟨_, _, _, hm, _⟩ := (layDrive.slice 84).own_rd (hi := w.heap.size) h ((layDrive.slice 84).own_lt h)
    simp only at hm
    unfold maxLen at hm
    clear h hv
    simp only at so nd
    have hj' : j + sumN (fun i => cDriveD (x i)) n ≤ 100000000 := hj
    clear hj
    have ND : Hid ((g :: catN n Ls).Nodup) := nd
    clear nd
    go_enter Tryz.func87, Tryz.ntmps87
    go_wp2
    go_loopw [1, 5] (fun y i wr => ∃ k : Nat, k ≤ n ∧ i = .int .i64 k ∧ y = .int .i64 ((j + sumN (fun i => cDriveD (x i)) k : Nat) : Int) ∧ ∃ ce, SlO layDrive 84 wr g cap n (mkTo cDriveD mkDriveD j x k) ce Ls ∧ ChgL (g :: catN n Ls) w wr) (fun _ i _ => n - (intOf i).toNat)
    case atStart => exact ⟨0, Nat.zero_le _, rfl, rfl, ce, by rw [mkTo_zero]; exact so, ChgL.refl _ _⟩
    case round =>
      clear so
      obtain ⟨k, hk, rfl, rfl, ce, so, ch⟩ := hrel
      by_cases hlt : k < n
      · have S0 := so.at_ k
        rw [mkTo_at] at S0
        obtain ⟨ao1, cap1, K1, hcs, hL, o1⟩ := Drive_own (S0.own hlt)
        rw [hcs] at S0
        have HL : Hid (Ls k = K1) := hL
        have hgn := not_in ND.out hlt
        have hnd := nodup_at ND.out k hlt
        rw [hL] at hgn hnd
        have hs1 : sumN (fun i => cDriveD (x i)) (k + 1) ≤ sumN (fun i => cDriveD (x i)) n := sumN_mono _ (show k + 1 ≤ n from hlt)
        rw [sumN_succ] at hs1
        obtain ⟨J, hJ⟩ : ∃ J, J = j + sumN (fun i => cDriveD (x i)) k := ⟨_, rfl⟩
        have hJb : J + cDriveD (x k) ≤ 100000000 := by omega
        have HJ : Hid (J = j + sumN (fun i => cDriveD (x i)) k) := hJ
        rw [← hJ]
        clear hs1 hJ hL hcs so
        unfold cDriveD at hJb
        have CH : Hid (ChgL (g :: catN n Ls) w wr) := ch
        clear ch
        have O1 : Hid ((layBlock.slice 46).own wr (x k).blocks [.slice ao1 (x k).blocks.1 cap1] K1) := o1
        clear o1
        have hb3 : ((J : Int) % 3 == 0) = decide (J % 3 = 0) := b3_eq J
        have c0_0 : wr.cell? ⟨g, k * 2, none⟩ = some (.bool (x k).wiped) := S0.cell hlt (show 0 < layDrive.sz by decide)
        have f0_0 := S0.frozen (k * 2)
        have c0_1 : wr.cell? ⟨g, k * 2 + 1, none⟩ = some (.slice ao1 (x k).blocks.1 cap1) := S0.cell hlt (show 1 < layDrive.sz by decide)
        have f0_1 := S0.frozen (k * 2 + 1)
        go_wp2_with fail
        have S1 : SlK layDrive 84 (wr.setCell ⟨g, k * 2, none⟩ (.bool (decide ((J) % 3 = 0)))) g cap n (mkTo cDriveD mkDriveD j x k) ce Ls k ⟨(decide ((J) % 3 = 0)), (x k).blocks⟩ [.bool (decide ((J) % 3 = 0)), .slice ao1 (x k).blocks.1 cap1] := S0.store ND.out hlt (show 0 < layDrive.sz by decide) (.bool (decide ((J) % 3 = 0))) (by rw [HL.out]; exact Drive_mk ⟨(decide ((J) % 3 = 0)), (x k).blocks⟩ (O1.out))
        refine (markBlockS_is _ (x k).blocks K1 (J + 1) _ (own_setg (O1.out) hgn) hnd (by omega)).mono ?_
        rintro e v1 ⟨rfl, p1, q1⟩
        have OO1_1 : Hid ((layBlock.slice 46).own v1 ((mkSl cBlockD mkBlockD) (J + 1) (x k).blocks) [.slice ao1 (x k).blocks.1 cap1] K1) := p1
        have SUB1 : ∀ b, b ∈ K1 → b ∈ Ls k := fun b hb => by rw [HL.out]; exact hb
        have S2 : SlK layDrive 84 v1 g cap n (mkTo cDriveD mkDriveD j x k) ce Ls k ⟨(decide ((J) % 3 = 0)), ((mkSl cBlockD mkBlockD) (J + 1) (x k).blocks)⟩ [.bool (decide ((J) % 3 = 0)), .slice ao1 (x k).blocks.1 cap1] := S1.into ND.out hlt (q1.mono (SUB1)) (by rw [HL.out]; exact Drive_mk ⟨(decide ((J) % 3 = 0)), ((mkSl cBlockD mkBlockD) (J + 1) (x k).blocks)⟩ (OO1_1.out))
        have CH1 : Hid (ChgL (g :: catN n Ls) w v1) := ((CH.out).st g _ _ (List.mem_cons_self ..)).sub q1 (fun b hb => SlO.sub k hlt b ((SUB1) b hb))
        have FS : SlO layDrive 84 v1 g cap n (upd (mkTo cDriveD mkDriveD j x k) k (mkDriveD J (x k))) (upd ce k [.bool (decide ((J) % 3 = 0)), .slice ao1 (x k).blocks.1 cap1]) Ls := S2
        rw [HJ.out, mkTo_next] at FS
        have FS' : Hid (∃ ce, SlO layDrive 84 v1 g cap n (mkTo cDriveD mkDriveD j x (k + 1)) ce Ls) := ⟨_, FS⟩
        clear FS p1 q1
        go_wp2_with fail
        go_roundw
        case rel =>
          obtain ⟨ce', FS⟩ := FS'.out
          exact ⟨k + 1, by omega, by go_num, val_eq (by
            have e1 := HJ.out
            have e2 : sumN (fun i => cDriveD (x i)) (k + 1) = sumN (fun i => cDriveD (x i)) k + cDriveD (x k) := rfl
            have e3 : cDriveD (x k) = 1 + (cSl cBlockD) (x k).blocks := rfl
            omega), ce', FS, CH1.out⟩
        case measure => simp [intOf]; omega
      · obtain rfl : k = n := by omega
        go_wp2
        go_ret
        exact ⟨rfl, (so.congr (fun i hi => mkTo_done cDriveD mkDriveD j x k i hi)).own, ch⟩
set_option maxHeartbeats 4000000 in
theorem markDriveSS_is : MkS ((layDrive.slice 84).slice 85) (cSl (cSl cDriveD)) (mkSl (cSl cDriveD) (mkSl cDriveD mkDriveD)) 51 := fun v d L j w h nd hj => by
  obtain ⟨n, x⟩ := d
  by_cases h0 : n = 0
  · subst h0
    have hown : ((layDrive.slice 84).slice 85).own w (mkSl (cSl cDriveD) (mkSl cDriveD mkDriveD) j (0, x)) [v] L := slice_congr h rfl (fun i hi => absurd hi (Nat.not_lt_zero i))
    obtain ⟨ao, cap, hv⟩ := sl_formO h
    obtain rfl := one_eq hv
    clear h hv
    go_enter Tryz.func51, Tryz.ntmps51
    go_wp2
    go_loopw [1, 5] (fun y i wr => y = .int .i64 j ∧ i = .int .i64 0 ∧ wr = w) (fun _ _ _ => 0)
    case atStart => exact ⟨rfl, rfl, rfl⟩
    case round =>
      obtain ⟨rfl, rfl, rfl⟩ := hrel
      go_wp2
      go_ret
      exact ⟨ret_eq (by simp [cSl, sumN]), hown, ChgL.refl _ _⟩
  · obtain ⟨g, cap, ce, Ls, hv, rfl, so⟩ := slice_form h h0
    obtain rfl := one_eq hv
    obtain ⟨_, _, _, hm, _⟩ := ((layDrive.slice 84).slice 85).own_rd (hi := w.heap.size) h (((layDrive.slice 84).slice 85).own_lt h)
    simp only at hm
    unfold maxLen at hm
    clear h hv
    simp only at so nd
    have hj' : j + sumN (fun i => (cSl cDriveD) (x i)) n ≤ 100000000 := hj
    clear hj
    have ND : Hid ((g :: catN n Ls).Nodup) := nd
    clear nd
    go_enter Tryz.func51, Tryz.ntmps51
    go_wp2
    go_loopw [1, 5] (fun y i wr => ∃ k : Nat, k ≤ n ∧ i = .int .i64 k ∧ y = .int .i64 ((j + sumN (fun i => (cSl cDriveD) (x i)) k : Nat) : Int) ∧ ∃ ce, SlO (layDrive.slice 84) 85 wr g cap n (mkTo (cSl cDriveD) (mkSl cDriveD mkDriveD) j x k) ce Ls ∧ ChgL (g :: catN n Ls) w wr) (fun _ i _ => n - (intOf i).toNat)
    case atStart => exact ⟨0, Nat.zero_le _, rfl, rfl, ce, by rw [mkTo_zero]; exact so, ChgL.refl _ _⟩
    case round =>
      clear so
      obtain ⟨k, hk, rfl, rfl, ce, so, ch⟩ := hrel
      by_cases hlt : k < n
      · have S0 := so.at_ k
        rw [mkTo_at] at S0
        have o1 := S0.own hlt
        obtain ⟨ao9, cap9, hcs⟩ := sl_formO o1
        rw [hcs] at S0 o1
        have hs1 : sumN (fun i => (cSl cDriveD) (x i)) (k + 1) ≤ sumN (fun i => (cSl cDriveD) (x i)) n := sumN_mono _ (show k + 1 ≤ n from hlt)
        rw [sumN_succ] at hs1
        obtain ⟨J, hJ⟩ : ∃ J, J = j + sumN (fun i => (cSl cDriveD) (x i)) k := ⟨_, rfl⟩
        have hJb : J + (cSl cDriveD) (x k) ≤ 100000000 := by omega
        have HJ : Hid (J = j + sumN (fun i => (cSl cDriveD) (x i)) k) := hJ
        rw [← hJ]
        clear hs1 hJ hcs so
        have CH : Hid (ChgL (g :: catN n Ls) w wr) := ch
        clear ch
        have c0 : wr.cell? ⟨g, k, none⟩ = some (.slice ao9 (x k).1 cap9) := by
          have h := S0.cell hlt (show 0 < (layDrive.slice 84).sz by decide)
          rw [show (layDrive.slice 84).sz = 1 from rfl, Nat.mul_one, Nat.add_zero] at h
          exact h
        have HO : Hid ((layDrive.slice 84).own wr (x k) [.slice ao9 (x k).1 cap9] (Ls k)) := o1
        clear o1
        go_wp2_with fail
        refine (markDriveS_is _ (x k) (Ls k) J _ HO.out (nodup_at ND.out k hlt) (by omega)).mono ?_
        rintro e w2 ⟨rfl, p1, q1⟩
        have S1 := S0.into ND.out hlt q1 p1
        have CH1 : Hid (ChgL (g :: catN n Ls) w w2) := CH.out.sub q1 (fun b hb => SlO.sub k hlt b hb)
        have FS : SlO (layDrive.slice 84) 85 w2 g cap n (upd (mkTo (cSl cDriveD) (mkSl cDriveD mkDriveD) j x k) k ((mkSl cDriveD mkDriveD) J (x k))) (upd ce k [.slice ao9 (x k).1 cap9]) Ls := S1
        rw [HJ.out, mkTo_next] at FS
        have FS' : Hid (∃ ce, SlO (layDrive.slice 84) 85 w2 g cap n (mkTo (cSl cDriveD) (mkSl cDriveD mkDriveD) j x (k + 1)) ce Ls) := ⟨_, FS⟩
        clear FS p1 q1 S1 S0
        go_wp2_with fail
        go_roundw
        case rel =>
          obtain ⟨ce', FS⟩ := FS'.out
          exact ⟨k + 1, by omega, by go_num, val_eq (by
            have e1 := HJ.out
            have e2 : sumN (fun i => (cSl cDriveD) (x i)) (k + 1) = sumN (fun i => (cSl cDriveD) (x i)) k + (cSl cDriveD) (x k) := rfl
            omega), ce', FS, CH1.out⟩
        case measure => simp [intOf]; omega
      · obtain rfl : k = n := by omega
        go_wp2
        go_ret
        exact ⟨rfl, (so.congr (fun i hi => mkTo_done (cSl cDriveD) (mkSl cDriveD mkDriveD) j x k i hi)).own, ch⟩
end Go.Proofs.YtbmfndjglndnlaaGreat

namespace Go.Proofs.YtbmfndjglndnlaaGreat
open Go.RowKit F256
set_option linter.unusedVariables false
set_option linter.unusedSimpArgs false
set_option maxHeartbeats 8000000 in
theorem markRecS_is : MkS (layRec.slice 119) (cSl cRecD) (mkSl cRecD mkRecD) 88 := fun v d L j w h nd hj => by
  obtain ⟨n, x⟩ := d
  by_cases h0 : n = 0
  · subst h0
    have hown : (layRec.slice 119).own w (mkSl cRecD mkRecD j (0, x)) [v] L := slice_congr h rfl (fun i hi => absurd hi (Nat.not_lt_zero i))
    obtain ⟨ao, cap, hv⟩ := sl_formO h
    obtain rfl := one_eq hv
    clear h hv
    go_enter Tryz.func88, Tryz.ntmps88
    go_wp2
    go_loopw [1, 5] (fun y i wr => y = .int .i64 j ∧ i = .int .i64 0 ∧ wr = w) (fun _ _ _ => 0)
    case atStart => exact ⟨rfl, rfl, rfl⟩
    case round =>
      obtain ⟨rfl, rfl, rfl⟩ := hrel
      go_wp2
      go_ret
      exact ⟨ret_eq (by simp [cSl, sumN]), hown, ChgL.refl _ _⟩
  · obtain ⟨g, cap, ce, Ls, hv, rfl, so⟩ := slice_form h h0
    obtain rfl := one_eq hv
    obtain ⟨_, _, _, hm, _⟩ := (layRec.slice 119).own_rd (hi := w.heap.size) h ((layRec.slice 119).own_lt h)
    simp only at hm
    unfold maxLen at hm
    clear h hv
    simp only at so nd
    have hj' : j + sumN (fun i => cRecD (x i)) n ≤ 100000000 := hj
    clear hj
    have ND : Hid ((g :: catN n Ls).Nodup) := nd
    clear nd
    go_enter Tryz.func88, Tryz.ntmps88
    go_wp2
    go_loopw [1, 5] (fun y i wr => ∃ k : Nat, k ≤ n ∧ i = .int .i64 k ∧ y = .int .i64 ((j + sumN (fun i => cRecD (x i)) k : Nat) : Int) ∧ ∃ ce, SlO layRec 119 wr g cap n (mkTo cRecD mkRecD j x k) ce Ls ∧ ChgL (g :: catN n Ls) w wr) (fun _ i _ => n - (intOf i).toNat)
    case atStart => exact ⟨0, Nat.zero_le _, rfl, rfl, ce, by rw [mkTo_zero]; exact so, ChgL.refl _ _⟩
    case round =>
      clear so
      obtain ⟨k, hk, rfl, rfl, ce, so, ch⟩ := hrel
      by_cases hlt : k < n
      · have S0 := so.at_ k
        rw [mkTo_at] at S0
        obtain ⟨ao6, cap6, ao7, cap7, ao8, cap8, K6, K7, K8, hcs, hL, o6, o7, o8, k0, k1, k2, k3, k4, k5⟩ := Rec_own (S0.own hlt)
        rw [hcs] at S0
        have HL : Hid (Ls k = K6 ++ (K7 ++ K8)) := hL
        have hgn := not_in ND.out hlt
        have hnd := nodup_at ND.out k hlt
        rw [hL] at hgn hnd
        have hs1 : sumN (fun i => cRecD (x i)) (k + 1) ≤ sumN (fun i => cRecD (x i)) n := sumN_mono _ (show k + 1 ≤ n from hlt)
        rw [sumN_succ] at hs1
        obtain ⟨J, hJ⟩ : ∃ J, J = j + sumN (fun i => cRecD (x i)) k := ⟨_, rfl⟩
        have hJb : J + cRecD (x k) ≤ 100000000 := by omega
        have HJ : Hid (J = j + sumN (fun i => cRecD (x i)) k) := hJ
        rw [← hJ]
        clear hs1 hJ hL hcs so
        unfold cRecD at hJb
        have CH : Hid (ChgL (g :: catN n Ls) w wr) := ch
        clear ch
        obtain ⟨n1, n2, n3⟩ := List.nodup_append.1 hnd
        obtain ⟨n4, n5, n6⟩ := List.nodup_append.1 n2
        simp only [List.mem_append, not_or] at hgn
        obtain ⟨hg0, hg1, hg2⟩ := hgn
        clear n2 hnd
        have O6 : Hid (layInts.own wr (x k).rows [.slice ao6 (x k).rows.1 cap6] K6) := o6
        have O7 : Hid (layBytes.own wr (x k).data [.slice ao7 (x k).data.1 cap7] K7) := o7
        have O8 : Hid (layBytes.own wr (x k).delta [.slice ao8 (x k).delta.1 cap8] K8) := o8
        clear o6 o7 o8
        have Q0 : Hid ((-9223372036854775808 ≤ (x k).kind ∧ (x k).kind ≤ 9223372036854775807)) := k0
        clear k0
        have Q1 : Hid ((-9223372036854775808 ≤ (x k).seq ∧ (x k).seq ≤ 9223372036854775807)) := k1
        clear k1
        have Q2 : Hid ((x k).name.size ≤ maxLen) := k2
        clear k2
        have Q3 : Hid ((-9223372036854775808 ≤ (x k).length ∧ (x k).length ≤ 9223372036854775807)) := k3
        clear k3
        have Q4 : Hid ((-9223372036854775808 ≤ (x k).group ∧ (x k).group ≤ 9223372036854775807)) := k4
        clear k4
        have Q5 : Hid ((-9223372036854775808 ≤ (x k).row ∧ (x k).row ≤ 9223372036854775807)) := k5
        clear k5
        have c0_0 : wr.cell? ⟨g, k * 9, none⟩ = some (.int .i64 (x k).kind) := S0.cell hlt (show 0 < layRec.sz by decide)
        have f0_0 := S0.frozen (k * 9)
        have c0_1 : wr.cell? ⟨g, k * 9 + 1, none⟩ = some (.int .i64 (x k).seq) := S0.cell hlt (show 1 < layRec.sz by decide)
        have f0_1 := S0.frozen (k * 9 + 1)
        have c0_2 : wr.cell? ⟨g, k * 9 + 2, none⟩ = some (.string (x k).name) := S0.cell hlt (show 2 < layRec.sz by decide)
        have f0_2 := S0.frozen (k * 9 + 2)
        have c0_3 : wr.cell? ⟨g, k * 9 + 3, none⟩ = some (.int .i64 (x k).length) := S0.cell hlt (show 3 < layRec.sz by decide)
        have f0_3 := S0.frozen (k * 9 + 3)
        have c0_4 : wr.cell? ⟨g, k * 9 + 4, none⟩ = some (.int .i64 (x k).group) := S0.cell hlt (show 4 < layRec.sz by decide)
        have f0_4 := S0.frozen (k * 9 + 4)
        have c0_5 : wr.cell? ⟨g, k * 9 + 5, none⟩ = some (.int .i64 (x k).row) := S0.cell hlt (show 5 < layRec.sz by decide)
        have f0_5 := S0.frozen (k * 9 + 5)
        have c0_6 : wr.cell? ⟨g, k * 9 + 6, none⟩ = some (.slice ao6 (x k).rows.1 cap6) := S0.cell hlt (show 6 < layRec.sz by decide)
        have f0_6 := S0.frozen (k * 9 + 6)
        have c0_7 : wr.cell? ⟨g, k * 9 + 7, none⟩ = some (.slice ao7 (x k).data.1 cap7) := S0.cell hlt (show 7 < layRec.sz by decide)
        have f0_7 := S0.frozen (k * 9 + 7)
        have c0_8 : wr.cell? ⟨g, k * 9 + 8, none⟩ = some (.slice ao8 (x k).delta.1 cap8) := S0.cell hlt (show 8 < layRec.sz by decide)
        have f0_8 := S0.frozen (k * 9 + 8)
        go_wp2_with fail
        have S1 : SlK layRec 119 (wr.setCell ⟨g, k * 9, none⟩ (.int .i64 (((J : Nat)) : Int))) g cap n (mkTo cRecD mkRecD j x k) ce Ls k ⟨(((J : Nat)) : Int), (x k).seq, (x k).name, (x k).length, (x k).group, (x k).row, (x k).rows, (x k).data, (x k).delta⟩ [.int .i64 (((J : Nat)) : Int), .int .i64 (x k).seq, .string (x k).name, .int .i64 (x k).length, .int .i64 (x k).group, .int .i64 (x k).row, .slice ao6 (x k).rows.1 cap6, .slice ao7 (x k).data.1 cap7, .slice ao8 (x k).delta.1 cap8] := S0.store ND.out hlt (show 0 < layRec.sz by decide) (.int .i64 (((J : Nat)) : Int)) (by rw [HL.out]; exact Rec_mk ⟨(((J : Nat)) : Int), (x k).seq, (x k).name, (x k).length, (x k).group, (x k).row, (x k).rows, (x k).data, (x k).delta⟩ (O6.out) (O7.out) (O8.out) ((show -9223372036854775808 ≤ (((J : Nat)) : Int) ∧ (((J : Nat)) : Int) ≤ 9223372036854775807 by omega)) (Q1.out) (Q2.out) (Q3.out) (Q4.out) (Q5.out))
        have S2 : SlK layRec 119 ((wr.setCell ⟨g, k * 9, none⟩ (.int .i64 (((J : Nat)) : Int))).setCell ⟨g, k * 9 + 1, none⟩ (.int .i64 (((J + 1 : Nat)) : Int))) g cap n (mkTo cRecD mkRecD j x k) ce Ls k ⟨(((J : Nat)) : Int), (((J + 1 : Nat)) : Int), (x k).name, (x k).length, (x k).group, (x k).row, (x k).rows, (x k).data, (x k).delta⟩ [.int .i64 (((J : Nat)) : Int), .int .i64 (((J + 1 : Nat)) : Int), .string (x k).name, .int .i64 (x k).length, .int .i64 (x k).group, .int .i64 (x k).row, .slice ao6 (x k).rows.1 cap6, .slice ao7 (x k).data.1 cap7, .slice ao8 (x k).delta.1 cap8] := S1.store ND.out hlt (show 1 < layRec.sz by decide) (.int .i64 (((J + 1 : Nat)) : Int)) (by rw [HL.out]; exact Rec_mk ⟨(((J : Nat)) : Int), (((J + 1 : Nat)) : Int), (x k).name, (x k).length, (x k).group, (x k).row, (x k).rows, (x k).data, (x k).delta⟩ (own_setg (O6.out) hg0) (own_setg (O7.out) hg1) (own_setg (O8.out) hg2) ((show -9223372036854775808 ≤ (((J : Nat)) : Int) ∧ (((J : Nat)) : Int) ≤ 9223372036854775807 by omega)) ((show -9223372036854775808 ≤ (((J + 1 : Nat)) : Int) ∧ (((J + 1 : Nat)) : Int) ≤ 9223372036854775807 by omega)) (Q2.out) (Q3.out) (Q4.out) (Q5.out))
        refine (markText_any (J + 2) (by omega) (by omega) _).mono ?_
        rintro e wt ⟨rfl, bt⟩
        have OO1_6 : Hid (layInts.own wt (x k).rows [.slice ao6 (x k).rows.1 cap6] K6) := layInts.own_kept (own_setg (own_setg (O6.out) hg0) hg0) (fun b hb => bt.block b (layInts.own_lt (own_setg (own_setg (O6.out) hg0) hg0) b hb))
        have OO1_7 : Hid (layBytes.own wt (x k).data [.slice ao7 (x k).data.1 cap7] K7) := layBytes.own_kept (own_setg (own_setg (O7.out) hg1) hg1) (fun b hb => bt.block b (layBytes.own_lt (own_setg (own_setg (O7.out) hg1) hg1) b hb))
        have OO1_8 : Hid (layBytes.own wt (x k).delta [.slice ao8 (x k).delta.1 cap8] K8) := layBytes.own_kept (own_setg (own_setg (O8.out) hg2) hg2) (fun b hb => bt.block b (layBytes.own_lt (own_setg (own_setg (O8.out) hg2) hg2) b hb))
        have S1t : SlK layRec 119 wt g cap n (mkTo cRecD mkRecD j x k) ce Ls k ⟨(((J : Nat)) : Int), (((J + 1 : Nat)) : Int), (x k).name, (x k).length, (x k).group, (x k).row, (x k).rows, (x k).data, (x k).delta⟩ [.int .i64 (((J : Nat)) : Int), .int .i64 (((J + 1 : Nat)) : Int), .string (x k).name, .int .i64 (x k).length, .int .i64 (x k).group, .int .i64 (x k).row, .slice ao6 (x k).rows.1 cap6, .slice ao7 (x k).data.1 cap7, .slice ao8 (x k).delta.1 cap8] := SlO.kept S2 (fun b hb => bt.block b (SlO.mem_lt S2 b hb))
        have CH1 : Hid (ChgL (g :: catN n Ls) w wt) := (((CH.out).st g _ _ (List.mem_cons_self ..)).st g _ _ (List.mem_cons_self ..)).trans (ChgL.of_below bt)
        have c1_0 : wt.cell? ⟨g, k * 9, none⟩ = some (.int .i64 (((J : Nat)) : Int)) := S1t.cell hlt (show 0 < layRec.sz by decide)
        have f1_0 := S1t.frozen (k * 9)
        have c1_1 : wt.cell? ⟨g, k * 9 + 1, none⟩ = some (.int .i64 (((J + 1 : Nat)) : Int)) := S1t.cell hlt (show 1 < layRec.sz by decide)
        have f1_1 := S1t.frozen (k * 9 + 1)
        have c1_2 : wt.cell? ⟨g, k * 9 + 2, none⟩ = some (.string (x k).name) := S1t.cell hlt (show 2 < layRec.sz by decide)
        have f1_2 := S1t.frozen (k * 9 + 2)
        have c1_3 : wt.cell? ⟨g, k * 9 + 3, none⟩ = some (.int .i64 (x k).length) := S1t.cell hlt (show 3 < layRec.sz by decide)
        have f1_3 := S1t.frozen (k * 9 + 3)
        have c1_4 : wt.cell? ⟨g, k * 9 + 4, none⟩ = some (.int .i64 (x k).group) := S1t.cell hlt (show 4 < layRec.sz by decide)
        have f1_4 := S1t.frozen (k * 9 + 4)
        have c1_5 : wt.cell? ⟨g, k * 9 + 5, none⟩ = some (.int .i64 (x k).row) := S1t.cell hlt (show 5 < layRec.sz by decide)
        have f1_5 := S1t.frozen (k * 9 + 5)
        have c1_6 : wt.cell? ⟨g, k * 9 + 6, none⟩ = some (.slice ao6 (x k).rows.1 cap6) := S1t.cell hlt (show 6 < layRec.sz by decide)
        have f1_6 := S1t.frozen (k * 9 + 6)
        have c1_7 : wt.cell? ⟨g, k * 9 + 7, none⟩ = some (.slice ao7 (x k).data.1 cap7) := S1t.cell hlt (show 7 < layRec.sz by decide)
        have f1_7 := S1t.frozen (k * 9 + 7)
        have c1_8 : wt.cell? ⟨g, k * 9 + 8, none⟩ = some (.slice ao8 (x k).delta.1 cap8) := S1t.cell hlt (show 8 < layRec.sz by decide)
        have f1_8 := S1t.frozen (k * 9 + 8)
        clear bt
        go_wp2_with fail
        have S3 : SlK layRec 119 (wt.setCell ⟨g, k * 9 + 2, none⟩ (.string (markT (J + 2)))) g cap n (mkTo cRecD mkRecD j x k) ce Ls k ⟨(((J : Nat)) : Int), (((J + 1 : Nat)) : Int), (markT (J + 2)), (x k).length, (x k).group, (x k).row, (x k).rows, (x k).data, (x k).delta⟩ [.int .i64 (((J : Nat)) : Int), .int .i64 (((J + 1 : Nat)) : Int), .string (markT (J + 2)), .int .i64 (x k).length, .int .i64 (x k).group, .int .i64 (x k).row, .slice ao6 (x k).rows.1 cap6, .slice ao7 (x k).data.1 cap7, .slice ao8 (x k).delta.1 cap8] := S1t.store ND.out hlt (show 2 < layRec.sz by decide) (.string (markT (J + 2))) (by rw [HL.out]; exact Rec_mk ⟨(((J : Nat)) : Int), (((J + 1 : Nat)) : Int), (markT (J + 2)), (x k).length, (x k).group, (x k).row, (x k).rows, (x k).data, (x k).delta⟩ (OO1_6.out) (OO1_7.out) (OO1_8.out) ((show -9223372036854775808 ≤ (((J : Nat)) : Int) ∧ (((J : Nat)) : Int) ≤ 9223372036854775807 by omega)) ((show -9223372036854775808 ≤ (((J + 1 : Nat)) : Int) ∧ (((J + 1 : Nat)) : Int) ≤ 9223372036854775807 by omega)) (markT_le (J + 2)) (Q3.out) (Q4.out) (Q5.out))
        have S4 : SlK layRec 119 ((wt.setCell ⟨g, k * 9 + 2, none⟩ (.string (markT (J + 2)))).setCell ⟨g, k * 9 + 3, none⟩ (.int .i64 (((J + 3 : Nat)) : Int))) g cap n (mkTo cRecD mkRecD j x k) ce Ls k ⟨(((J : Nat)) : Int), (((J + 1 : Nat)) : Int), (markT (J + 2)), (((J + 3 : Nat)) : Int), (x k).group, (x k).row, (x k).rows, (x k).data, (x k).delta⟩ [.int .i64 (((J : Nat)) : Int), .int .i64 (((J + 1 : Nat)) : Int), .string (markT (J + 2)), .int .i64 (((J + 3 : Nat)) : Int), .int .i64 (x k).group, .int .i64 (x k).row, .slice ao6 (x k).rows.1 cap6, .slice ao7 (x k).data.1 cap7, .slice ao8 (x k).delta.1 cap8] := S3.store ND.out hlt (show 3 < layRec.sz by decide) (.int .i64 (((J + 3 : Nat)) : Int)) (by rw [HL.out]; exact Rec_mk ⟨(((J : Nat)) : Int), (((J + 1 : Nat)) : Int), (markT (J + 2)), (((J + 3 : Nat)) : Int), (x k).group, (x k).row, (x k).rows, (x k).data, (x k).delta⟩ (own_setg (OO1_6.out) hg0) (own_setg (OO1_7.out) hg1) (own_setg (OO1_8.out) hg2) ((show -9223372036854775808 ≤ (((J : Nat)) : Int) ∧ (((J : Nat)) : Int) ≤ 9223372036854775807 by omega)) ((show -9223372036854775808 ≤ (((J + 1 : Nat)) : Int) ∧ (((J + 1 : Nat)) : Int) ≤ 9223372036854775807 by omega)) (markT_le (J + 2)) ((show -9223372036854775808 ≤ (((J + 3 : Nat)) : Int) ∧ (((J + 3 : Nat)) : Int) ≤ 9223372036854775807 by omega)) (Q4.out) (Q5.out))
        have S5 : SlK layRec 119 (((wt.setCell ⟨g, k * 9 + 2, none⟩ (.string (markT (J + 2)))).setCell ⟨g, k * 9 + 3, none⟩ (.int .i64 (((J + 3 : Nat)) : Int))).setCell ⟨g, k * 9 + 4, none⟩ (.int .i64 (((J + 4 : Nat)) : Int))) g cap n (mkTo cRecD mkRecD j x k) ce Ls k ⟨(((J : Nat)) : Int), (((J + 1 : Nat)) : Int), (markT (J + 2)), (((J + 3 : Nat)) : Int), (((J + 4 : Nat)) : Int), (x k).row, (x k).rows, (x k).data, (x k).delta⟩ [.int .i64 (((J : Nat)) : Int), .int .i64 (((J + 1 : Nat)) : Int), .string (markT (J + 2)), .int .i64 (((J + 3 : Nat)) : Int), .int .i64 (((J + 4 : Nat)) : Int), .int .i64 (x k).row, .slice ao6 (x k).rows.1 cap6, .slice ao7 (x k).data.1 cap7, .slice ao8 (x k).delta.1 cap8] := S4.store ND.out hlt (show 4 < layRec.sz by decide) (.int .i64 (((J + 4 : Nat)) : Int)) (by rw [HL.out]; exact Rec_mk ⟨(((J : Nat)) : Int), (((J + 1 : Nat)) : Int), (markT (J + 2)), (((J + 3 : Nat)) : Int), (((J + 4 : Nat)) : Int), (x k).row, (x k).rows, (x k).data, (x k).delta⟩ (own_setg (own_setg (OO1_6.out) hg0) hg0) (own_setg (own_setg (OO1_7.out) hg1) hg1) (own_setg (own_setg (OO1_8.out) hg2) hg2) ((show -9223372036854775808 ≤ (((J : Nat)) : Int) ∧ (((J : Nat)) : Int) ≤ 9223372036854775807 by omega)) ((show -9223372036854775808 ≤ (((J + 1 : Nat)) : Int) ∧ (((J + 1 : Nat)) : Int) ≤ 9223372036854775807 by omega)) (markT_le (J + 2)) ((show -9223372036854775808 ≤ (((J + 3 : Nat)) : Int) ∧ (((J + 3 : Nat)) : Int) ≤ 9223372036854775807 by omega)) ((show -9223372036854775808 ≤ (((J + 4 : Nat)) : Int) ∧ (((J + 4 : Nat)) : Int) ≤ 9223372036854775807 by omega)) (Q5.out))
        have S6 : SlK layRec 119 ((((wt.setCell ⟨g, k * 9 + 2, none⟩ (.string (markT (J + 2)))).setCell ⟨g, k * 9 + 3, none⟩ (.int .i64 (((J + 3 : Nat)) : Int))).setCell ⟨g, k * 9 + 4, none⟩ (.int .i64 (((J + 4 : Nat)) : Int))).setCell ⟨g, k * 9 + 5, none⟩ (.int .i64 (((J + 5 : Nat)) : Int))) g cap n (mkTo cRecD mkRecD j x k) ce Ls k ⟨(((J : Nat)) : Int), (((J + 1 : Nat)) : Int), (markT (J + 2)), (((J + 3 : Nat)) : Int), (((J + 4 : Nat)) : Int), (((J + 5 : Nat)) : Int), (x k).rows, (x k).data, (x k).delta⟩ [.int .i64 (((J : Nat)) : Int), .int .i64 (((J + 1 : Nat)) : Int), .string (markT (J + 2)), .int .i64 (((J + 3 : Nat)) : Int), .int .i64 (((J + 4 : Nat)) : Int), .int .i64 (((J + 5 : Nat)) : Int), .slice ao6 (x k).rows.1 cap6, .slice ao7 (x k).data.1 cap7, .slice ao8 (x k).delta.1 cap8] := S5.store ND.out hlt (show 5 < layRec.sz by decide) (.int .i64 (((J + 5 : Nat)) : Int)) (by rw [HL.out]; exact Rec_mk ⟨(((J : Nat)) : Int), (((J + 1 : Nat)) : Int), (markT (J + 2)), (((J + 3 : Nat)) : Int), (((J + 4 : Nat)) : Int), (((J + 5 : Nat)) : Int), (x k).rows, (x k).data, (x k).delta⟩ (own_setg (own_setg (own_setg (OO1_6.out) hg0) hg0) hg0) (own_setg (own_setg (own_setg (OO1_7.out) hg1) hg1) hg1) (own_setg (own_setg (own_setg (OO1_8.out) hg2) hg2) hg2) ((show -9223372036854775808 ≤ (((J : Nat)) : Int) ∧ (((J : Nat)) : Int) ≤ 9223372036854775807 by omega)) ((show -9223372036854775808 ≤ (((J + 1 : Nat)) : Int) ∧ (((J + 1 : Nat)) : Int) ≤ 9223372036854775807 by omega)) (markT_le (J + 2)) ((show -9223372036854775808 ≤ (((J + 3 : Nat)) : Int) ∧ (((J + 3 : Nat)) : Int) ≤ 9223372036854775807 by omega)) ((show -9223372036854775808 ≤ (((J + 4 : Nat)) : Int) ∧ (((J + 4 : Nat)) : Int) ≤ 9223372036854775807 by omega)) ((show -9223372036854775808 ≤ (((J + 5 : Nat)) : Int) ∧ (((J + 5 : Nat)) : Int) ≤ 9223372036854775807 by omega)))
        refine (markInts_is _ (x k).rows K6 (J + 6) _ (own_setg (own_setg (own_setg (own_setg (OO1_6.out) hg0) hg0) hg0) hg0) n1 (by omega)).mono ?_
        rintro e v6 ⟨rfl, p6, q6⟩
        have OO2_6 : Hid (layInts.own v6 (mkInts (J + 6) (x k).rows) [.slice ao6 (x k).rows.1 cap6] K6) := p6
        have OO2_7 : Hid (layBytes.own v6 (x k).data [.slice ao7 (x k).data.1 cap7] K7) := layBytes.own_chgL (own_setg (own_setg (own_setg (own_setg (OO1_7.out) hg1) hg1) hg1) hg1) q6 (fun b hb hx => n3 b hx b (List.mem_append_left _ hb) rfl)
        have OO2_8 : Hid (layBytes.own v6 (x k).delta [.slice ao8 (x k).delta.1 cap8] K8) := layBytes.own_chgL (own_setg (own_setg (own_setg (own_setg (OO1_8.out) hg2) hg2) hg2) hg2) q6 (fun b hb hx => n3 b hx b (List.mem_append_right _ hb) rfl)
        have SUB6 : ∀ b, b ∈ K6 → b ∈ Ls k := fun b hb => by rw [HL.out]; exact List.mem_append_left _ hb
        have S7 : SlK layRec 119 v6 g cap n (mkTo cRecD mkRecD j x k) ce Ls k ⟨(((J : Nat)) : Int), (((J + 1 : Nat)) : Int), (markT (J + 2)), (((J + 3 : Nat)) : Int), (((J + 4 : Nat)) : Int), (((J + 5 : Nat)) : Int), (mkInts (J + 6) (x k).rows), (x k).data, (x k).delta⟩ [.int .i64 (((J : Nat)) : Int), .int .i64 (((J + 1 : Nat)) : Int), .string (markT (J + 2)), .int .i64 (((J + 3 : Nat)) : Int), .int .i64 (((J + 4 : Nat)) : Int), .int .i64 (((J + 5 : Nat)) : Int), .slice ao6 (x k).rows.1 cap6, .slice ao7 (x k).data.1 cap7, .slice ao8 (x k).delta.1 cap8] := S6.into ND.out hlt (q6.mono (SUB6)) (by rw [HL.out]; exact Rec_mk ⟨(((J : Nat)) : Int), (((J + 1 : Nat)) : Int), (markT (J + 2)), (((J + 3 : Nat)) : Int), (((J + 4 : Nat)) : Int), (((J + 5 : Nat)) : Int), (mkInts (J + 6) (x k).rows), (x k).data, (x k).delta⟩ (OO2_6.out) (OO2_7.out) (OO2_8.out) ((show -9223372036854775808 ≤ (((J : Nat)) : Int) ∧ (((J : Nat)) : Int) ≤ 9223372036854775807 by omega)) ((show -9223372036854775808 ≤ (((J + 1 : Nat)) : Int) ∧ (((J + 1 : Nat)) : Int) ≤ 9223372036854775807 by omega)) (markT_le (J + 2)) ((show -9223372036854775808 ≤ (((J + 3 : Nat)) : Int) ∧ (((J + 3 : Nat)) : Int) ≤ 9223372036854775807 by omega)) ((show -9223372036854775808 ≤ (((J + 4 : Nat)) : Int) ∧ (((J + 4 : Nat)) : Int) ≤ 9223372036854775807 by omega)) ((show -9223372036854775808 ≤ (((J + 5 : Nat)) : Int) ∧ (((J + 5 : Nat)) : Int) ≤ 9223372036854775807 by omega)))
        have CH2 : Hid (ChgL (g :: catN n Ls) w v6) := (((((CH1.out).st g _ _ (List.mem_cons_self ..)).st g _ _ (List.mem_cons_self ..)).st g _ _ (List.mem_cons_self ..)).st g _ _ (List.mem_cons_self ..)).sub q6 (fun b hb => SlO.sub k hlt b ((SUB6) b hb))
        have c2_0 : v6.cell? ⟨g, k * 9, none⟩ = some (.int .i64 (((J : Nat)) : Int)) := S7.cell hlt (show 0 < layRec.sz by decide)
        have f2_0 := S7.frozen (k * 9)
        have c2_1 : v6.cell? ⟨g, k * 9 + 1, none⟩ = some (.int .i64 (((J + 1 : Nat)) : Int)) := S7.cell hlt (show 1 < layRec.sz by decide)
        have f2_1 := S7.frozen (k * 9 + 1)
        have c2_2 : v6.cell? ⟨g, k * 9 + 2, none⟩ = some (.string (markT (J + 2))) := S7.cell hlt (show 2 < layRec.sz by decide)
        have f2_2 := S7.frozen (k * 9 + 2)
        have c2_3 : v6.cell? ⟨g, k * 9 + 3, none⟩ = some (.int .i64 (((J + 3 : Nat)) : Int)) := S7.cell hlt (show 3 < layRec.sz by decide)
        have f2_3 := S7.frozen (k * 9 + 3)
        have c2_4 : v6.cell? ⟨g, k * 9 + 4, none⟩ = some (.int .i64 (((J + 4 : Nat)) : Int)) := S7.cell hlt (show 4 < layRec.sz by decide)
        have f2_4 := S7.frozen (k * 9 + 4)
        have c2_5 : v6.cell? ⟨g, k * 9 + 5, none⟩ = some (.int .i64 (((J + 5 : Nat)) : Int)) := S7.cell hlt (show 5 < layRec.sz by decide)
        have f2_5 := S7.frozen (k * 9 + 5)
        have c2_6 : v6.cell? ⟨g, k * 9 + 6, none⟩ = some (.slice ao6 (x k).rows.1 cap6) := S7.cell hlt (show 6 < layRec.sz by decide)
        have f2_6 := S7.frozen (k * 9 + 6)
        have c2_7 : v6.cell? ⟨g, k * 9 + 7, none⟩ = some (.slice ao7 (x k).data.1 cap7) := S7.cell hlt (show 7 < layRec.sz by decide)
        have f2_7 := S7.frozen (k * 9 + 7)
        have c2_8 : v6.cell? ⟨g, k * 9 + 8, none⟩ = some (.slice ao8 (x k).delta.1 cap8) := S7.cell hlt (show 8 < layRec.sz by decide)
        have f2_8 := S7.frozen (k * 9 + 8)
        clear p6 q6
        go_wp2_with fail
        refine (markBytes_is _ (x k).data K7 (J + 6 + lenD (x k).rows) _ (OO2_7.out) n4 (by omega)).mono ?_
        rintro e v7 ⟨rfl, p7, q7⟩
        have OO3_6 : Hid (layInts.own v7 (mkInts (J + 6) (x k).rows) [.slice ao6 (x k).rows.1 cap6] K6) := layInts.own_chgL (OO2_6.out) q7 (fun b hb hx => n3 b hb b (List.mem_append_left _ hx) rfl)
        have OO3_7 : Hid (layBytes.own v7 (mkBytes (J + 6 + lenD (x k).rows) (x k).data) [.slice ao7 (x k).data.1 cap7] K7) := p7
        have OO3_8 : Hid (layBytes.own v7 (x k).delta [.slice ao8 (x k).delta.1 cap8] K8) := layBytes.own_chgL (OO2_8.out) q7 (fun b hb hx => n6 b hx b hb rfl)
        have SUB7 : ∀ b, b ∈ K7 → b ∈ Ls k := fun b hb => by rw [HL.out]; exact List.mem_append_right _ (List.mem_append_left _ hb)
        have S8 : SlK layRec 119 v7 g cap n (mkTo cRecD mkRecD j x k) ce Ls k ⟨(((J : Nat)) : Int), (((J + 1 : Nat)) : Int), (markT (J + 2)), (((J + 3 : Nat)) : Int), (((J + 4 : Nat)) : Int), (((J + 5 : Nat)) : Int), (mkInts (J + 6) (x k).rows), (mkBytes (J + 6 + lenD (x k).rows) (x k).data), (x k).delta⟩ [.int .i64 (((J : Nat)) : Int), .int .i64 (((J + 1 : Nat)) : Int), .string (markT (J + 2)), .int .i64 (((J + 3 : Nat)) : Int), .int .i64 (((J + 4 : Nat)) : Int), .int .i64 (((J + 5 : Nat)) : Int), .slice ao6 (x k).rows.1 cap6, .slice ao7 (x k).data.1 cap7, .slice ao8 (x k).delta.1 cap8] := S7.into ND.out hlt (q7.mono (SUB7)) (by rw [HL.out]; exact Rec_mk ⟨(((J : Nat)) : Int), (((J + 1 : Nat)) : Int), (markT (J + 2)), (((J + 3 : Nat)) : Int), (((J + 4 : Nat)) : Int), (((J + 5 : Nat)) : Int), (mkInts (J + 6) (x k).rows), (mkBytes (J + 6 + lenD (x k).rows) (x k).data), (x k).delta⟩ (OO3_6.out) (OO3_7.out) (OO3_8.out) ((show -9223372036854775808 ≤ (((J : Nat)) : Int) ∧ (((J : Nat)) : Int) ≤ 9223372036854775807 by omega)) ((show -9223372036854775808 ≤ (((J + 1 : Nat)) : Int) ∧ (((J + 1 : Nat)) : Int) ≤ 9223372036854775807 by omega)) (markT_le (J + 2)) ((show -9223372036854775808 ≤ (((J + 3 : Nat)) : Int) ∧ (((J + 3 : Nat)) : Int) ≤ 9223372036854775807 by omega)) ((show -9223372036854775808 ≤ (((J + 4 : Nat)) : Int) ∧ (((J + 4 : Nat)) : Int) ≤ 9223372036854775807 by omega)) ((show -9223372036854775808 ≤ (((J + 5 : Nat)) : Int) ∧ (((J + 5 : Nat)) : Int) ≤ 9223372036854775807 by omega)))
        have CH3 : Hid (ChgL (g :: catN n Ls) w v7) := (CH2.out).sub q7 (fun b hb => SlO.sub k hlt b ((SUB7) b hb))
        have c3_0 : v7.cell? ⟨g, k * 9, none⟩ = some (.int .i64 (((J : Nat)) : Int)) := S8.cell hlt (show 0 < layRec.sz by decide)
        have f3_0 := S8.frozen (k * 9)
        have c3_1 : v7.cell? ⟨g, k * 9 + 1, none⟩ = some (.int .i64 (((J + 1 : Nat)) : Int)) := S8.cell hlt (show 1 < layRec.sz by decide)
        have f3_1 := S8.frozen (k * 9 + 1)
        have c3_2 : v7.cell? ⟨g, k * 9 + 2, none⟩ = some (.string (markT (J + 2))) := S8.cell hlt (show 2 < layRec.sz by decide)
        have f3_2 := S8.frozen (k * 9 + 2)
        have c3_3 : v7.cell? ⟨g, k * 9 + 3, none⟩ = some (.int .i64 (((J + 3 : Nat)) : Int)) := S8.cell hlt (show 3 < layRec.sz by decide)
        have f3_3 := S8.frozen (k * 9 + 3)
        have c3_4 : v7.cell? ⟨g, k * 9 + 4, none⟩ = some (.int .i64 (((J + 4 : Nat)) : Int)) := S8.cell hlt (show 4 < layRec.sz by decide)
        have f3_4 := S8.frozen (k * 9 + 4)
        have c3_5 : v7.cell? ⟨g, k * 9 + 5, none⟩ = some (.int .i64 (((J + 5 : Nat)) : Int)) := S8.cell hlt (show 5 < layRec.sz by decide)
        have f3_5 := S8.frozen (k * 9 + 5)
        have c3_6 : v7.cell? ⟨g, k * 9 + 6, none⟩ = some (.slice ao6 (x k).rows.1 cap6) := S8.cell hlt (show 6 < layRec.sz by decide)
        have f3_6 := S8.frozen (k * 9 + 6)
        have c3_7 : v7.cell? ⟨g, k * 9 + 7, none⟩ = some (.slice ao7 (x k).data.1 cap7) := S8.cell hlt (show 7 < layRec.sz by decide)
        have f3_7 := S8.frozen (k * 9 + 7)
        have c3_8 : v7.cell? ⟨g, k * 9 + 8, none⟩ = some (.slice ao8 (x k).delta.1 cap8) := S8.cell hlt (show 8 < layRec.sz by decide)
        have f3_8 := S8.frozen (k * 9 + 8)
        clear p7 q7
        go_wp2_with fail
        refine (markBytes_is _ (x k).delta K8 (J + 6 + lenD (x k).rows + lenD (x k).data) _ (OO3_8.out) n5 (by omega)).mono ?_
        rintro e v8 ⟨rfl, p8, q8⟩
        have OO4_6 : Hid (layInts.own v8 (mkInts (J + 6) (x k).rows) [.slice ao6 (x k).rows.1 cap6] K6) := layInts.own_chgL (OO3_6.out) q8 (fun b hb hx => n3 b hb b (List.mem_append_right _ hx) rfl)
        have OO4_7 : Hid (layBytes.own v8 (mkBytes (J + 6 + lenD (x k).rows) (x k).data) [.slice ao7 (x k).data.1 cap7] K7) := layBytes.own_chgL (OO3_7.out) q8 (fun b hb hx => n6 b hb b hx rfl)
        have OO4_8 : Hid (layBytes.own v8 (mkBytes (J + 6 + lenD (x k).rows + lenD (x k).data) (x k).delta) [.slice ao8 (x k).delta.1 cap8] K8) := p8
        have SUB8 : ∀ b, b ∈ K8 → b ∈ Ls k := fun b hb => by rw [HL.out]; exact List.mem_append_right _ (List.mem_append_right _ hb)
        have S9 : SlK layRec 119 v8 g cap n (mkTo cRecD mkRecD j x k) ce Ls k ⟨(((J : Nat)) : Int), (((J + 1 : Nat)) : Int), (markT (J + 2)), (((J + 3 : Nat)) : Int), (((J + 4 : Nat)) : Int), (((J + 5 : Nat)) : Int), (mkInts (J + 6) (x k).rows), (mkBytes (J + 6 + lenD (x k).rows) (x k).data), (mkBytes (J + 6 + lenD (x k).rows + lenD (x k).data) (x k).delta)⟩ [.int .i64 (((J : Nat)) : Int), .int .i64 (((J + 1 : Nat)) : Int), .string (markT (J + 2)), .int .i64 (((J + 3 : Nat)) : Int), .int .i64 (((J + 4 : Nat)) : Int), .int .i64 (((J + 5 : Nat)) : Int), .slice ao6 (x k).rows.1 cap6, .slice ao7 (x k).data.1 cap7, .slice ao8 (x k).delta.1 cap8] := S8.into ND.out hlt (q8.mono (SUB8)) (by rw [HL.out]; exact Rec_mk ⟨(((J : Nat)) : Int), (((J + 1 : Nat)) : Int), (markT (J + 2)), (((J + 3 : Nat)) : Int), (((J + 4 : Nat)) : Int), (((J + 5 : Nat)) : Int), (mkInts (J + 6) (x k).rows), (mkBytes (J + 6 + lenD (x k).rows) (x k).data), (mkBytes (J + 6 + lenD (x k).rows + lenD (x k).data) (x k).delta)⟩ (OO4_6.out) (OO4_7.out) (OO4_8.out) ((show -9223372036854775808 ≤ (((J : Nat)) : Int) ∧ (((J : Nat)) : Int) ≤ 9223372036854775807 by omega)) ((show -9223372036854775808 ≤ (((J + 1 : Nat)) : Int) ∧ (((J + 1 : Nat)) : Int) ≤ 9223372036854775807 by omega)) (markT_le (J + 2)) ((show -9223372036854775808 ≤ (((J + 3 : Nat)) : Int) ∧ (((J + 3 : Nat)) : Int) ≤ 9223372036854775807 by omega)) ((show -9223372036854775808 ≤ (((J + 4 : Nat)) : Int) ∧ (((J + 4 : Nat)) : Int) ≤ 9223372036854775807 by omega)) ((show -9223372036854775808 ≤ (((J + 5 : Nat)) : Int) ∧ (((J + 5 : Nat)) : Int) ≤ 9223372036854775807 by omega)))
        have CH4 : Hid (ChgL (g :: catN n Ls) w v8) := (CH3.out).sub q8 (fun b hb => SlO.sub k hlt b ((SUB8) b hb))
        have FS : SlO layRec 119 v8 g cap n (upd (mkTo cRecD mkRecD j x k) k (mkRecD J (x k))) (upd ce k [.int .i64 (((J : Nat)) : Int), .int .i64 (((J + 1 : Nat)) : Int), .string (markT (J + 2)), .int .i64 (((J + 3 : Nat)) : Int), .int .i64 (((J + 4 : Nat)) : Int), .int .i64 (((J + 5 : Nat)) : Int), .slice ao6 (x k).rows.1 cap6, .slice ao7 (x k).data.1 cap7, .slice ao8 (x k).delta.1 cap8]) Ls := S9
        rw [HJ.out, mkTo_next] at FS
        have FS' : Hid (∃ ce, SlO layRec 119 v8 g cap n (mkTo cRecD mkRecD j x (k + 1)) ce Ls) := ⟨_, FS⟩
        clear FS p8 q8
        go_wp2_with fail
        go_roundw
        case rel =>
          obtain ⟨ce', FS⟩ := FS'.out
          exact ⟨k + 1, by omega, by go_num, val_eq (by
            have e1 := HJ.out
            have e2 : sumN (fun i => cRecD (x i)) (k + 1) = sumN (fun i => cRecD (x i)) k + cRecD (x k) := rfl
            have e3 : cRecD (x k) = 6 + lenD (x k).rows + lenD (x k).data + lenD (x k).delta := rfl
            omega), ce', FS, CH4.out⟩
        case measure => simp [intOf]; omega
      · obtain rfl : k = n := by omega
        go_wp2
        go_ret
        exact ⟨rfl, (so.congr (fun i hi => mkTo_done cRecD mkRecD j x k i hi)).own, ch⟩
set_option maxHeartbeats 8000000 in
theorem markTapeS_is : MkS (layTape.slice 94) (cSl cTapeD) (mkSl cTapeD mkTapeD) 53 := fun v d L j w h nd hj => by
  obtain ⟨n, x⟩ := d
  by_cases h0 : n = 0
  · subst h0
    have hown : (layTape.slice 94).own w (mkSl cTapeD mkTapeD j (0, x)) [v] L := slice_congr h rfl (fun i hi => absurd hi (Nat.not_lt_zero i))
    obtain ⟨ao, cap, hv⟩ := sl_formO h
    obtain rfl := one_eq hv
    clear h hv
    go_enter Tryz.func53, Tryz.ntmps53
    go_wp2
    go_loopw [1, 5] (fun y i wr => y = .int .i64 j ∧ i = .int .i64 0 ∧ wr = w) (fun _ _ _ => 0)
    case atStart => exact ⟨rfl, rfl, rfl⟩
    case round =>
      obtain ⟨rfl, rfl, rfl⟩ := hrel
      go_wp2
      go_ret
      exact ⟨ret_eq (by simp [cSl, sumN]), hown, ChgL.refl _ _⟩
  · obtain ⟨g, cap, ce, Ls, hv, rfl, so⟩ := slice_form h h0
    obtain rfl := one_eq hv
    obtain ⟨_, _, _, hm, _⟩ := (layTape.slice 94).own_rd (hi := w.heap.size) h ((layTape.slice 94).own_lt h)
    simp only at hm
    unfold maxLen at hm
    clear h hv
    simp only at so nd
    have hj' : j + sumN (fun i => cTapeD (x i)) n ≤ 100000000 := hj
    clear hj
    have ND : Hid ((g :: catN n Ls).Nodup) := nd
    clear nd
    go_enter Tryz.func53, Tryz.ntmps53
    go_wp2
    go_loopw [1, 5] (fun y i wr => ∃ k : Nat, k ≤ n ∧ i = .int .i64 k ∧ y = .int .i64 ((j + sumN (fun i => cTapeD (x i)) k : Nat) : Int) ∧ ∃ ce, SlO layTape 94 wr g cap n (mkTo cTapeD mkTapeD j x k) ce Ls ∧ ChgL (g :: catN n Ls) w wr) (fun _ i _ => n - (intOf i).toNat)
    case atStart => exact ⟨0, Nat.zero_le _, rfl, rfl, ce, by rw [mkTo_zero]; exact so, ChgL.refl _ _⟩
    case round =>
      clear so
      obtain ⟨k, hk, rfl, rfl, ce, so, ch⟩ := hrel
      by_cases hlt : k < n
      · have S0 := so.at_ k
        rw [mkTo_at] at S0
        obtain ⟨ao1, cap1, K1, hcs, hL, o1⟩ := Tape_own (S0.own hlt)
        rw [hcs] at S0
        have HL : Hid (Ls k = K1) := hL
        have hgn := not_in ND.out hlt
        have hnd := nodup_at ND.out k hlt
        rw [hL] at hgn hnd
        have hs1 : sumN (fun i => cTapeD (x i)) (k + 1) ≤ sumN (fun i => cTapeD (x i)) n := sumN_mono _ (show k + 1 ≤ n from hlt)
        rw [sumN_succ] at hs1
        obtain ⟨J, hJ⟩ : ∃ J, J = j + sumN (fun i => cTapeD (x i)) k := ⟨_, rfl⟩
        have hJb : J + cTapeD (x k) ≤ 100000000 := by omega
        have HJ : Hid (J = j + sumN (fun i => cTapeD (x i)) k) := hJ
        rw [← hJ]
        clear hs1 hJ hL hcs so
        unfold cTapeD at hJb
        have CH : Hid (ChgL (g :: catN n Ls) w wr) := ch
        clear ch
        have O1 : Hid ((layRec.slice 119).own wr (x k).recs [.slice ao1 (x k).recs.1 cap1] K1) := o1
        clear o1
        have hb3 : ((J : Int) % 3 == 0) = decide (J % 3 = 0) := b3_eq J
        have c0_0 : wr.cell? ⟨g, k * 2, none⟩ = some (.bool (x k).wiped) := S0.cell hlt (show 0 < layTape.sz by decide)
        have f0_0 := S0.frozen (k * 2)
        have c0_1 : wr.cell? ⟨g, k * 2 + 1, none⟩ = some (.slice ao1 (x k).recs.1 cap1) := S0.cell hlt (show 1 < layTape.sz by decide)
        have f0_1 := S0.frozen (k * 2 + 1)
        go_wp2_with fail
        have S1 : SlK layTape 94 (wr.setCell ⟨g, k * 2, none⟩ (.bool (decide ((J) % 3 = 0)))) g cap n (mkTo cTapeD mkTapeD j x k) ce Ls k ⟨(decide ((J) % 3 = 0)), (x k).recs⟩ [.bool (decide ((J) % 3 = 0)), .slice ao1 (x k).recs.1 cap1] := S0.store ND.out hlt (show 0 < layTape.sz by decide) (.bool (decide ((J) % 3 = 0))) (by rw [HL.out]; exact Tape_mk ⟨(decide ((J) % 3 = 0)), (x k).recs⟩ (O1.out))
        refine (markRecS_is _ (x k).recs K1 (J + 1) _ (own_setg (O1.out) hgn) hnd (by omega)).mono ?_
        rintro e v1 ⟨rfl, p1, q1⟩
        have OO1_1 : Hid ((layRec.slice 119).own v1 ((mkSl cRecD mkRecD) (J + 1) (x k).recs) [.slice ao1 (x k).recs.1 cap1] K1) := p1
        have SUB1 : ∀ b, b ∈ K1 → b ∈ Ls k := fun b hb => by rw [HL.out]; exact hb
        have S2 : SlK layTape 94 v1 g cap n (mkTo cTapeD mkTapeD j x k) ce Ls k ⟨(decide ((J) % 3 = 0)), ((mkSl cRecD mkRecD) (J + 1) (x k).recs)⟩ [.bool (decide ((J) % 3 = 0)), .slice ao1 (x k).recs.1 cap1] := S1.into ND.out hlt (q1.mono (SUB1)) (by rw [HL.out]; exact Tape_mk ⟨(decide ((J) % 3 = 0)), ((mkSl cRecD mkRecD) (J + 1) (x k).recs)⟩ (OO1_1.out))
        have CH1 : Hid (ChgL (g :: catN n Ls) w v1) := ((CH.out).st g _ _ (List.mem_cons_self ..)).sub q1 (fun b hb => SlO.sub k hlt b ((SUB1) b hb))
        have FS : SlO layTape 94 v1 g cap n (upd (mkTo cTapeD mkTapeD j x k) k (mkTapeD J (x k))) (upd ce k [.bool (decide ((J) % 3 = 0)), .slice ao1 (x k).recs.1 cap1]) Ls := S2
        rw [HJ.out, mkTo_next] at FS
        have FS' : Hid (∃ ce, SlO layTape 94 v1 g cap n (mkTo cTapeD mkTapeD j x (k + 1)) ce Ls) := ⟨_, FS⟩
        clear FS p1 q1
        go_wp2_with fail
        go_roundw
        case rel =>
          obtain ⟨ce', FS⟩ := FS'.out
          exact ⟨k + 1, by omega, by go_num, val_eq (by
            have e1 := HJ.out
            have e2 : sumN (fun i => cTapeD (x i)) (k + 1) = sumN (fun i => cTapeD (x i)) k + cTapeD (x k) := rfl
            have e3 : cTapeD (x k) = 1 + (cSl cRecD) (x k).recs := rfl
            omega), ce', FS, CH1.out⟩
        case measure => simp [intOf]; omega
      · obtain rfl : k = n := by omega
        go_wp2
        go_ret
        exact ⟨rfl, (so.congr (fun i hi => mkTo_done cTapeD mkTapeD j x k i hi)).own, ch⟩
end Go.Proofs.YtbmfndjglndnlaaGreat

namespace Go.Proofs.YtbmfndjglndnlaaGreat
open Go.RowKit F256
set_option linter.unusedVariables false
set_option linter.unusedSimpArgs false
set_option maxHeartbeats 4000000 in
theorem markWorld_is : MkV layWorld cvWorldD mkvWorldD 15 := fun cs d L j w h nd hj => by
  obtain ⟨ao1, cap1, ao2, cap2, ao3, cap3, K1, K2, K3, rfl, rfl, o1, o2, o3, k0, k4, k5⟩ := World_own h
  clear h


  unfold cvWorldD at hj ⊢
  obtain ⟨n0, m0, d0⟩ := List.nodup_append.1 nd
  obtain ⟨n1, m1, d1⟩ := List.nodup_append.1 m0
  obtain ⟨n2, m2, d2⟩ := List.nodup_append.1 m1
  have Z1 := ((layDrive.slice 84).slice 85).own_lt o1
  have Z2 := layInts.own_lt o2
  have Z3 := (layTape.slice 94).own_lt o3
  have bz : Below w.heap.size w (w.alloc (.cells #[.int .i64 (d.shape 0), .int .i64 (d.shape 1), .int .i64 (d.shape 2), .int .i64 (d.shape 3), .int .i64 (d.shape 4), .int .i64 (d.shape 5), .int .i64 (d.shape 6), .int .i64 (d.shape 7), .int .i64 (d.shape 8), .slice ao1 d.groups.1 cap1, .slice ao2 d.on.1 cap2, .slice ao3 d.tapes.1 cap3, .int .i64 d.writes, .int .i64 d.stop, .bool d.down] 34)) := (Below.refl _ _).alloc (Nat.le_refl _) _
  have B0 : Hid (Box (w.alloc (.cells #[.int .i64 (d.shape 0), .int .i64 (d.shape 1), .int .i64 (d.shape 2), .int .i64 (d.shape 3), .int .i64 (d.shape 4), .int .i64 (d.shape 5), .int .i64 (d.shape 6), .int .i64 (d.shape 7), .int .i64 (d.shape 8), .slice ao1 d.groups.1 cap1, .slice ao2 d.on.1 cap2, .slice ao3 d.tapes.1 cap3, .int .i64 d.writes, .int .i64 d.stop, .bool d.down] 34)) w.heap.size #[.int .i64 (d.shape 0), .int .i64 (d.shape 1), .int .i64 (d.shape 2), .int .i64 (d.shape 3), .int .i64 (d.shape 4), .int .i64 (d.shape 5), .int .i64 (d.shape 6), .int .i64 (d.shape 7), .int .i64 (d.shape 8), .slice ao1 d.groups.1 cap1, .slice ao2 d.on.1 cap2, .slice ao3 d.tapes.1 cap3, .int .i64 d.writes, .int .i64 d.stop, .bool d.down] 34) := box_new _ _ _
  have CH0 : Hid (ChgL (K1 ++ (K2 ++ (K3 ++ []))) w (w.alloc (.cells #[.int .i64 (d.shape 0), .int .i64 (d.shape 1), .int .i64 (d.shape 2), .int .i64 (d.shape 3), .int .i64 (d.shape 4), .int .i64 (d.shape 5), .int .i64 (d.shape 6), .int .i64 (d.shape 7), .int .i64 (d.shape 8), .slice ao1 d.groups.1 cap1, .slice ao2 d.on.1 cap2, .slice ao3 d.tapes.1 cap3, .int .i64 d.writes, .int .i64 d.stop, .bool d.down] 34))) := ChgL.of_below bz
  have O0_1 : Hid (((layDrive.slice 84).slice 85).own (w.alloc (.cells #[.int .i64 (d.shape 0), .int .i64 (d.shape 1), .int .i64 (d.shape 2), .int .i64 (d.shape 3), .int .i64 (d.shape 4), .int .i64 (d.shape 5), .int .i64 (d.shape 6), .int .i64 (d.shape 7), .int .i64 (d.shape 8), .slice ao1 d.groups.1 cap1, .slice ao2 d.on.1 cap2, .slice ao3 d.tapes.1 cap3, .int .i64 d.writes, .int .i64 d.stop, .bool d.down] 34)) d.groups [.slice ao1 d.groups.1 cap1] K1) := ((layDrive.slice 84).slice 85).own_kept o1 (fun b hb => bz.block b (Z1 b hb))
  have O0_2 : Hid (layInts.own (w.alloc (.cells #[.int .i64 (d.shape 0), .int .i64 (d.shape 1), .int .i64 (d.shape 2), .int .i64 (d.shape 3), .int .i64 (d.shape 4), .int .i64 (d.shape 5), .int .i64 (d.shape 6), .int .i64 (d.shape 7), .int .i64 (d.shape 8), .slice ao1 d.groups.1 cap1, .slice ao2 d.on.1 cap2, .slice ao3 d.tapes.1 cap3, .int .i64 d.writes, .int .i64 d.stop, .bool d.down] 34)) d.on [.slice ao2 d.on.1 cap2] K2) := layInts.own_kept o2 (fun b hb => bz.block b (Z2 b hb))
  have O0_3 : Hid ((layTape.slice 94).own (w.alloc (.cells #[.int .i64 (d.shape 0), .int .i64 (d.shape 1), .int .i64 (d.shape 2), .int .i64 (d.shape 3), .int .i64 (d.shape 4), .int .i64 (d.shape 5), .int .i64 (d.shape 6), .int .i64 (d.shape 7), .int .i64 (d.shape 8), .slice ao1 d.groups.1 cap1, .slice ao2 d.on.1 cap2, .slice ao3 d.tapes.1 cap3, .int .i64 d.writes, .int .i64 d.stop, .bool d.down] 34)) d.tapes [.slice ao3 d.tapes.1 cap3] K3) := (layTape.slice 94).own_kept o3 (fun b hb => bz.block b (Z3 b hb))
  clear bz o1 o2 o3
  go_enter Tryz.func15, Tryz.ntmps15
  go_wp2_with fail
  refine (markDriveSS_is _ d.groups K1 (j) _ O0_1.out n0 (by omega)).mono ?_
  rintro e w1 ⟨rfl, p1, q1⟩
  have O1_1 : Hid (((layDrive.slice 84).slice 85).own w1 ((mkSl (cSl cDriveD) (mkSl cDriveD mkDriveD)) (j) d.groups) [.slice ao1 d.groups.1 cap1] K1) := p1
  have O1_2 : Hid (layInts.own w1 d.on [.slice ao2 d.on.1 cap2] K2) := layInts.own_chgL O0_2.out q1 (fun b hb hx => d0 b hx b (List.mem_append_left _ hb) rfl)
  have O1_3 : Hid ((layTape.slice 94).own w1 d.tapes [.slice ao3 d.tapes.1 cap3] K3) := (layTape.slice 94).own_chgL O0_3.out q1 (fun b hb hx => d0 b hx b (List.mem_append_right _ (List.mem_append_left _ hb)) rfl)
  have B1 : Hid (Box w1 w.heap.size #[.int .i64 (d.shape 0), .int .i64 (d.shape 1), .int .i64 (d.shape 2), .int .i64 (d.shape 3), .int .i64 (d.shape 4), .int .i64 (d.shape 5), .int .i64 (d.shape 6), .int .i64 (d.shape 7), .int .i64 (d.shape 8), .slice ao1 d.groups.1 cap1, .slice ao2 d.on.1 cap2, .slice ao3 d.tapes.1 cap3, .int .i64 d.writes, .int .i64 d.stop, .bool d.down] 34) := (q1.block w.heap.size B0.out.lt (fun hb => by have := Z1 _ hb; omega)).trans B0.out
  have CH1 : Hid (ChgL (K1 ++ (K2 ++ (K3 ++ []))) w w1) := CH0.out.sub q1 (fun b hb => List.mem_append_left _ hb)
  clear p1 q1
  have x1_10 : w1.cell? ⟨w.heap.size, 10, none⟩ = some (.slice ao2 d.on.1 cap2) := B1.out.cell 10
  go_wp2_with fail
  refine (markInts_is _ d.on K2 (j + (cSl (cSl cDriveD)) d.groups) _ O1_2.out n1 (by omega)).mono ?_
  rintro e w2 ⟨rfl, p2, q2⟩
  have O2_1 : Hid (((layDrive.slice 84).slice 85).own w2 ((mkSl (cSl cDriveD) (mkSl cDriveD mkDriveD)) (j) d.groups) [.slice ao1 d.groups.1 cap1] K1) := ((layDrive.slice 84).slice 85).own_chgL O1_1.out q2 (fun b hb hx => d0 b hb b (List.mem_append_left _ hx) rfl)
  have O2_2 : Hid (layInts.own w2 (mkInts (j + (cSl (cSl cDriveD)) d.groups) d.on) [.slice ao2 d.on.1 cap2] K2) := p2
  have O2_3 : Hid ((layTape.slice 94).own w2 d.tapes [.slice ao3 d.tapes.1 cap3] K3) := (layTape.slice 94).own_chgL O1_3.out q2 (fun b hb hx => d1 b hx b (List.mem_append_left _ hb) rfl)
  have B2 : Hid (Box w2 w.heap.size #[.int .i64 (d.shape 0), .int .i64 (d.shape 1), .int .i64 (d.shape 2), .int .i64 (d.shape 3), .int .i64 (d.shape 4), .int .i64 (d.shape 5), .int .i64 (d.shape 6), .int .i64 (d.shape 7), .int .i64 (d.shape 8), .slice ao1 d.groups.1 cap1, .slice ao2 d.on.1 cap2, .slice ao3 d.tapes.1 cap3, .int .i64 d.writes, .int .i64 d.stop, .bool d.down] 34) := (q2.block w.heap.size B1.out.lt (fun hb => by have := Z2 _ hb; omega)).trans B1.out
  have CH2 : Hid (ChgL (K1 ++ (K2 ++ (K3 ++ []))) w w2) := CH1.out.sub q2 (fun b hb => List.mem_append_right _ (List.mem_append_left _ hb))
  clear p2 q2
  have x2_11 : w2.cell? ⟨w.heap.size, 11, none⟩ = some (.slice ao3 d.tapes.1 cap3) := B2.out.cell 11
  go_wp2_with fail
  refine (markTapeS_is _ d.tapes K3 (j + (cSl (cSl cDriveD)) d.groups + lenD d.on) _ O2_3.out n2 (by omega)).mono ?_
  rintro e w3 ⟨rfl, p3, q3⟩
  have O3_1 : Hid (((layDrive.slice 84).slice 85).own w3 ((mkSl (cSl cDriveD) (mkSl cDriveD mkDriveD)) (j) d.groups) [.slice ao1 d.groups.1 cap1] K1) := ((layDrive.slice 84).slice 85).own_chgL O2_1.out q3 (fun b hb hx => d0 b hb b (List.mem_append_right _ (List.mem_append_left _ hx)) rfl)
  have O3_2 : Hid (layInts.own w3 (mkInts (j + (cSl (cSl cDriveD)) d.groups) d.on) [.slice ao2 d.on.1 cap2] K2) := layInts.own_chgL O2_2.out q3 (fun b hb hx => d1 b hb b (List.mem_append_left _ hx) rfl)
  have O3_3 : Hid ((layTape.slice 94).own w3 ((mkSl cTapeD mkTapeD) (j + (cSl (cSl cDriveD)) d.groups + lenD d.on) d.tapes) [.slice ao3 d.tapes.1 cap3] K3) := p3
  have B3 : Hid (Box w3 w.heap.size #[.int .i64 (d.shape 0), .int .i64 (d.shape 1), .int .i64 (d.shape 2), .int .i64 (d.shape 3), .int .i64 (d.shape 4), .int .i64 (d.shape 5), .int .i64 (d.shape 6), .int .i64 (d.shape 7), .int .i64 (d.shape 8), .slice ao1 d.groups.1 cap1, .slice ao2 d.on.1 cap2, .slice ao3 d.tapes.1 cap3, .int .i64 d.writes, .int .i64 d.stop, .bool d.down] 34) := (q3.block w.heap.size B2.out.lt (fun hb => by have := Z3 _ hb; omega)).trans B2.out
  have CH3 : Hid (ChgL (K1 ++ (K2 ++ (K3 ++ []))) w w3) := CH2.out.sub q3 (fun b hb => List.mem_append_right _ (List.mem_append_right _ (List.mem_append_left _ hb)))
  clear p3 q3
  go_wp2
  go_ret
  exact ⟨ret_eq (by omega), World_mk (mkvWorldD j d) O3_1.out O3_2.out O3_3.out k0 k4 k5, CH3.out⟩
set_option maxHeartbeats 4000000 in
theorem markWorldResult_is : MkV layWorldResult cvWorldResultD mkvWorldResultD 16 := fun cs d L j w h nd hj => by
  obtain ⟨ao1_1, cap1_1, ao1_2, cap1_2, ao1_3, cap1_3, K1, rfl, hLL, o1, k0⟩ := WorldResult_own h
  clear h
  have hLM := hLL.symm
  subst hLM
  unfold cvWorldResultD at hj ⊢
  have Z1 := layWorld.own_lt o1
  have bz : Below w.heap.size w (w.alloc (.cells #[.int .i64 d.code, .int .i64 (d.world.shape 0), .int .i64 (d.world.shape 1), .int .i64 (d.world.shape 2), .int .i64 (d.world.shape 3), .int .i64 (d.world.shape 4), .int .i64 (d.world.shape 5), .int .i64 (d.world.shape 6), .int .i64 (d.world.shape 7), .int .i64 (d.world.shape 8), .slice ao1_1 d.world.groups.1 cap1_1, .slice ao1_2 d.world.on.1 cap1_2, .slice ao1_3 d.world.tapes.1 cap1_3, .int .i64 d.world.writes, .int .i64 d.world.stop, .bool d.world.down] 36)) := (Below.refl _ _).alloc (Nat.le_refl _) _
  have B0 : Hid (Box (w.alloc (.cells #[.int .i64 d.code, .int .i64 (d.world.shape 0), .int .i64 (d.world.shape 1), .int .i64 (d.world.shape 2), .int .i64 (d.world.shape 3), .int .i64 (d.world.shape 4), .int .i64 (d.world.shape 5), .int .i64 (d.world.shape 6), .int .i64 (d.world.shape 7), .int .i64 (d.world.shape 8), .slice ao1_1 d.world.groups.1 cap1_1, .slice ao1_2 d.world.on.1 cap1_2, .slice ao1_3 d.world.tapes.1 cap1_3, .int .i64 d.world.writes, .int .i64 d.world.stop, .bool d.world.down] 36)) w.heap.size #[.int .i64 d.code, .int .i64 (d.world.shape 0), .int .i64 (d.world.shape 1), .int .i64 (d.world.shape 2), .int .i64 (d.world.shape 3), .int .i64 (d.world.shape 4), .int .i64 (d.world.shape 5), .int .i64 (d.world.shape 6), .int .i64 (d.world.shape 7), .int .i64 (d.world.shape 8), .slice ao1_1 d.world.groups.1 cap1_1, .slice ao1_2 d.world.on.1 cap1_2, .slice ao1_3 d.world.tapes.1 cap1_3, .int .i64 d.world.writes, .int .i64 d.world.stop, .bool d.world.down] 36) := box_new _ _ _
  have CH0 : Hid (ChgL (K1) w (w.alloc (.cells #[.int .i64 d.code, .int .i64 (d.world.shape 0), .int .i64 (d.world.shape 1), .int .i64 (d.world.shape 2), .int .i64 (d.world.shape 3), .int .i64 (d.world.shape 4), .int .i64 (d.world.shape 5), .int .i64 (d.world.shape 6), .int .i64 (d.world.shape 7), .int .i64 (d.world.shape 8), .slice ao1_1 d.world.groups.1 cap1_1, .slice ao1_2 d.world.on.1 cap1_2, .slice ao1_3 d.world.tapes.1 cap1_3, .int .i64 d.world.writes, .int .i64 d.world.stop, .bool d.world.down] 36))) := ChgL.of_below bz
  have O0_1 : Hid (layWorld.own (w.alloc (.cells #[.int .i64 d.code, .int .i64 (d.world.shape 0), .int .i64 (d.world.shape 1), .int .i64 (d.world.shape 2), .int .i64 (d.world.shape 3), .int .i64 (d.world.shape 4), .int .i64 (d.world.shape 5), .int .i64 (d.world.shape 6), .int .i64 (d.world.shape 7), .int .i64 (d.world.shape 8), .slice ao1_1 d.world.groups.1 cap1_1, .slice ao1_2 d.world.on.1 cap1_2, .slice ao1_3 d.world.tapes.1 cap1_3, .int .i64 d.world.writes, .int .i64 d.world.stop, .bool d.world.down] 36)) d.world [.int .i64 (d.world.shape 0), .int .i64 (d.world.shape 1), .int .i64 (d.world.shape 2), .int .i64 (d.world.shape 3), .int .i64 (d.world.shape 4), .int .i64 (d.world.shape 5), .int .i64 (d.world.shape 6), .int .i64 (d.world.shape 7), .int .i64 (d.world.shape 8), .slice ao1_1 d.world.groups.1 cap1_1, .slice ao1_2 d.world.on.1 cap1_2, .slice ao1_3 d.world.tapes.1 cap1_3, .int .i64 d.world.writes, .int .i64 d.world.stop, .bool d.world.down] K1) := layWorld.own_kept o1 (fun b hb => bz.block b (Z1 b hb))
  clear bz o1
  go_enter Tryz.func16, Tryz.ntmps16
  go_wp2_with fail
  refine (markWorld_is _ d.world K1 (j) _ O0_1.out nd (by omega)).mono ?_
  rintro e w1 ⟨rfl, p1, q1⟩
  have O1_1 : Hid (layWorld.own w1 (mkvWorldD (j) d.world) [.int .i64 (d.world.shape 0), .int .i64 (d.world.shape 1), .int .i64 (d.world.shape 2), .int .i64 (d.world.shape 3), .int .i64 (d.world.shape 4), .int .i64 (d.world.shape 5), .int .i64 (d.world.shape 6), .int .i64 (d.world.shape 7), .int .i64 (d.world.shape 8), .slice ao1_1 d.world.groups.1 cap1_1, .slice ao1_2 d.world.on.1 cap1_2, .slice ao1_3 d.world.tapes.1 cap1_3, .int .i64 d.world.writes, .int .i64 d.world.stop, .bool d.world.down] K1) := p1
  have B1 : Hid (Box w1 w.heap.size #[.int .i64 d.code, .int .i64 (d.world.shape 0), .int .i64 (d.world.shape 1), .int .i64 (d.world.shape 2), .int .i64 (d.world.shape 3), .int .i64 (d.world.shape 4), .int .i64 (d.world.shape 5), .int .i64 (d.world.shape 6), .int .i64 (d.world.shape 7), .int .i64 (d.world.shape 8), .slice ao1_1 d.world.groups.1 cap1_1, .slice ao1_2 d.world.on.1 cap1_2, .slice ao1_3 d.world.tapes.1 cap1_3, .int .i64 d.world.writes, .int .i64 d.world.stop, .bool d.world.down] 36) := (q1.block w.heap.size B0.out.lt (fun hb => by have := Z1 _ hb; omega)).trans B0.out
  have CH1 : Hid (ChgL (K1) w w1) := CH0.out.sub q1 (fun b hb => hb)
  clear p1 q1
  go_wp2
  go_ret
  exact ⟨ret_eq (by omega), WorldResult_mk (mkvWorldResultD j d) O1_1.out k0, CH1.out⟩
set_option maxHeartbeats 4000000 in
theorem markBlock_is : MkV layBlock cvBlockD mkvBlockD 64 := fun cs d L j w h nd hj => by
  obtain ⟨ao1, cap1, K1, rfl, hLL, o1, k0⟩ := Block_own h
  clear h
  have hLM := hLL.symm
  subst hLM
  unfold cvBlockD at hj ⊢
  have Z1 := layBytes.own_lt o1
  have bz : Below w.heap.size w (w.alloc (.cells #[.int .i64 d.stamp, .slice ao1 d.bytes.1 cap1] 46)) := (Below.refl _ _).alloc (Nat.le_refl _) _
  have B0 : Hid (Box (w.alloc (.cells #[.int .i64 d.stamp, .slice ao1 d.bytes.1 cap1] 46)) w.heap.size #[.int .i64 d.stamp, .slice ao1 d.bytes.1 cap1] 46) := box_new _ _ _
  have CH0 : Hid (ChgL (K1) w (w.alloc (.cells #[.int .i64 d.stamp, .slice ao1 d.bytes.1 cap1] 46))) := ChgL.of_below bz
  have O0_1 : Hid (layBytes.own (w.alloc (.cells #[.int .i64 d.stamp, .slice ao1 d.bytes.1 cap1] 46)) d.bytes [.slice ao1 d.bytes.1 cap1] K1) := layBytes.own_kept o1 (fun b hb => bz.block b (Z1 b hb))
  clear bz o1
  go_enter Tryz.func64, Tryz.ntmps64
  go_wp2_with fail
  refine (markBytes_is _ d.bytes K1 (j) _ O0_1.out nd (by omega)).mono ?_
  rintro e w1 ⟨rfl, p1, q1⟩
  have O1_1 : Hid (layBytes.own w1 (mkBytes (j) d.bytes) [.slice ao1 d.bytes.1 cap1] K1) := p1
  have B1 : Hid (Box w1 w.heap.size #[.int .i64 d.stamp, .slice ao1 d.bytes.1 cap1] 46) := (q1.block w.heap.size B0.out.lt (fun hb => by have := Z1 _ hb; omega)).trans B0.out
  have CH1 : Hid (ChgL (K1) w w1) := CH0.out.sub q1 (fun b hb => hb)
  clear p1 q1
  go_wp2
  go_ret
  exact ⟨ret_eq (by omega), Block_mk (mkvBlockD j d) O1_1.out k0, CH1.out⟩
set_option maxHeartbeats 4000000 in
theorem markBlockResult_is : MkV layBlockResult cvBlockResultD mkvBlockResultD 23 := fun cs d L j w h nd hj => by
  obtain ⟨ao1_1, cap1_1, K1, rfl, hLL, o1, k0⟩ := BlockResult_own h
  clear h
  have hLM := hLL.symm
  subst hLM
  unfold cvBlockResultD at hj ⊢
  have Z1 := layBlock.own_lt o1
  have bz : Below w.heap.size w (w.alloc (.cells #[.int .i64 d.code, .int .i64 d.block.stamp, .slice ao1_1 d.block.bytes.1 cap1_1] 48)) := (Below.refl _ _).alloc (Nat.le_refl _) _
  have B0 : Hid (Box (w.alloc (.cells #[.int .i64 d.code, .int .i64 d.block.stamp, .slice ao1_1 d.block.bytes.1 cap1_1] 48)) w.heap.size #[.int .i64 d.code, .int .i64 d.block.stamp, .slice ao1_1 d.block.bytes.1 cap1_1] 48) := box_new _ _ _
  have CH0 : Hid (ChgL (K1) w (w.alloc (.cells #[.int .i64 d.code, .int .i64 d.block.stamp, .slice ao1_1 d.block.bytes.1 cap1_1] 48))) := ChgL.of_below bz
  have O0_1 : Hid (layBlock.own (w.alloc (.cells #[.int .i64 d.code, .int .i64 d.block.stamp, .slice ao1_1 d.block.bytes.1 cap1_1] 48)) d.block [.int .i64 d.block.stamp, .slice ao1_1 d.block.bytes.1 cap1_1] K1) := layBlock.own_kept o1 (fun b hb => bz.block b (Z1 b hb))
  clear bz o1
  go_enter Tryz.func23, Tryz.ntmps23
  go_wp2_with fail
  refine (markBlock_is _ d.block K1 (j) _ O0_1.out nd (by omega)).mono ?_
  rintro e w1 ⟨rfl, p1, q1⟩
  have O1_1 : Hid (layBlock.own w1 (mkvBlockD (j) d.block) [.int .i64 d.block.stamp, .slice ao1_1 d.block.bytes.1 cap1_1] K1) := p1
  have B1 : Hid (Box w1 w.heap.size #[.int .i64 d.code, .int .i64 d.block.stamp, .slice ao1_1 d.block.bytes.1 cap1_1] 48) := (q1.block w.heap.size B0.out.lt (fun hb => by have := Z1 _ hb; omega)).trans B0.out
  have CH1 : Hid (ChgL (K1) w w1) := CH0.out.sub q1 (fun b hb => hb)
  clear p1 q1
  go_wp2
  go_ret
  exact ⟨ret_eq (by omega), BlockResult_mk (mkvBlockResultD j d) O1_1.out k0, CH1.out⟩
end Go.Proofs.YtbmfndjglndnlaaGreat

namespace Go.Proofs.YtbmfndjglndnlaaGreat
open Go.RowKit F256
set_option linter.unusedVariables false
set_option linter.unusedSimpArgs false
set_option maxHeartbeats 8000000 in
set_option maxRecDepth 20000 in
theorem heldBlockS_is : HdS (layBlock.slice 46) (cSl cBlockD) (mkSl cBlockD mkBlockD) 145 := fun v d hi j w h hhi hj => by
  obtain ⟨n, x⟩ := d
  obtain ⟨ao, cap, hv, hm, hc⟩ := h
  have hv' : v = .slice ao n cap := one_eq hv
  subst hv'
  clear hv
  have hj' : j + sumN (fun i => cBlockD (x i)) n ≤ 100000000 := hj
  have hm' : n ≤ maxLen := hm
  have hc' : n ≠ 0 → ∃ b off, ao = some ⟨b, off, none⟩ ∧ b < hi ∧ ∀ i, i < n → ∃ ce, layBlock.rd w hi (mkBlockD (j + sumN (fun i => cBlockD (x i)) i) (x i)) ce ∧ ∀ jj, jj < layBlock.sz → w.cell? ⟨b, off + (i * layBlock.sz + jj), none⟩ = ce[jj]? := hc
  clear hc hm hj
  unfold maxLen at hm'
  go_enter Tryz.func145, Tryz.ntmps145
  go_wp2
  go_loopw [1, 5] (fun y i wr => ∃ k : Nat, k ≤ n ∧ i = .int .i64 k ∧ y = .int .i64 ((j + sumN (fun i => cBlockD (x i)) k : Nat) : Int) ∧ Below w.heap.size w wr) (fun _ i _ => n - (intOf i).toNat)
  case atStart => exact ⟨0, Nat.zero_le _, rfl, rfl, Below.refl _ _⟩
  case round =>
    obtain ⟨k, hk, rfl, rfl, hb⟩ := hrel
    by_cases hlt : k < n
    · obtain ⟨b, off, rfl, hblt, hel⟩ := hc' (by omega)
      obtain ⟨ck, hrk, hcell⟩ := elem_rd (t := 0) (x := fun i => mkBlockD (j + sumN (fun i => cBlockD (x i)) i) (x i)) hel hb hhi hblt hlt
      have hs1 : sumN (fun i => cBlockD (x i)) (k + 1) ≤ sumN (fun i => cBlockD (x i)) n := sumN_mono _ (show k + 1 ≤ n from hlt)
      rw [sumN_succ] at hs1
      have hrk1 : layBlock.rd wr hi (mkBlockD (j + sumN (fun i => cBlockD (x i)) k) (x k)) ck := hrk
      clear hrk
      obtain ⟨J, hJ⟩ : ∃ J, J = j + sumN (fun i => cBlockD (x i)) k := ⟨_, rfl⟩
      have hJb : J + cBlockD (x k) ≤ 100000000 := by omega
      have HJ : Hid (J = j + sumN (fun i => cBlockD (x i)) k) := hJ
      rw [← hJ] at hrk1 ⊢
      clear hs1 hJ hc' hel
      have zr := hb.size
      unfold cBlockD at hJb
      obtain ⟨ao1, cap1, hck, r1, -⟩ := Block_rd hrk1
      subst hck
      clear hrk1
      have c0_0 : wr.cell? ⟨b, off + k * 2, none⟩ = some (.int .i64 ((J : Int))) := hcell 0 (by decide)
      have c0_1 : wr.cell? ⟨b, off + k * 2 + 1, none⟩ = some (.slice ao1 (x k).bytes.1 cap1) := hcell 1 (by decide)
      have R0_1 : Hid (layBytes.rd wr hi ((mkBytes (J + 1) (x k).bytes)) [.slice ao1 (x k).bytes.1 cap1]) := r1
      clear hcell r1
      have HB0 : Hid (Below w.heap.size w wr) := hb
      clear hb
      go_wp2_with fail
      refine (heldBytes_is _ (x k).bytes hi (J + 1) _ R0_1.out (by omega) (by omega)).mono ?_
      rintro e w1 ⟨rfl, b1⟩
      have z1 : wr.heap.size ≤ w1.heap.size := b1.size
      have hz1 : ¬ (((J + 1 + lenD (x k).bytes : Nat) : Int) < 0) := by omega
      have HB1 : Hid (Below w.heap.size w w1) := HB0.out.trans (b1.mono HB0.out.size)
      clear b1
      go_wp2_with fail
      go_roundw
      case rel =>
        exact ⟨k + 1, by omega, by go_num, val_eq (by
          have e1 := HJ.out
          have e2 : sumN (fun i => cBlockD (x i)) (k + 1) = sumN (fun i => cBlockD (x i)) k + cBlockD (x k) := rfl
          have e3 : cBlockD (x k) = 1 + lenD (x k).bytes := rfl
          omega), HB1.out⟩
      case measure => simp [intOf]; omega
    · obtain rfl : k = n := by omega
      go_wp2
      go_ret
      exact ⟨rfl, hb⟩
set_option maxHeartbeats 8000000 in
set_option maxRecDepth 20000 in
theorem heldDriveS_is : HdS (layDrive.slice 84) (cSl cDriveD) (mkSl cDriveD mkDriveD) 123 := fun v d hi j w h hhi hj => by
  obtain ⟨n, x⟩ := d
  obtain ⟨ao, cap, hv, hm, hc⟩ := h
  have hv' : v = .slice ao n cap := one_eq hv
  subst hv'
  clear hv
  have hj' : j + sumN (fun i => cDriveD (x i)) n ≤ 100000000 := hj
  have hm' : n ≤ maxLen := hm
  have hc' : n ≠ 0 → ∃ b off, ao = some ⟨b, off, none⟩ ∧ b < hi ∧ ∀ i, i < n → ∃ ce, layDrive.rd w hi (mkDriveD (j + sumN (fun i => cDriveD (x i)) i) (x i)) ce ∧ ∀ jj, jj < layDrive.sz → w.cell? ⟨b, off + (i * layDrive.sz + jj), none⟩ = ce[jj]? := hc
  clear hc hm hj
  unfold maxLen at hm'
  go_enter Tryz.func123, Tryz.ntmps123
  go_wp2
  go_loopw [1, 5] (fun y i wr => ∃ k : Nat, k ≤ n ∧ i = .int .i64 k ∧ y = .int .i64 ((j + sumN (fun i => cDriveD (x i)) k : Nat) : Int) ∧ Below w.heap.size w wr) (fun _ i _ => n - (intOf i).toNat)
  case atStart => exact ⟨0, Nat.zero_le _, rfl, rfl, Below.refl _ _⟩
  case round =>
    obtain ⟨k, hk, rfl, rfl, hb⟩ := hrel
    by_cases hlt : k < n
    · obtain ⟨b, off, rfl, hblt, hel⟩ := hc' (by omega)
      obtain ⟨ck, hrk, hcell⟩ := elem_rd (t := 0) (x := fun i => mkDriveD (j + sumN (fun i => cDriveD (x i)) i) (x i)) hel hb hhi hblt hlt
      have hs1 : sumN (fun i => cDriveD (x i)) (k + 1) ≤ sumN (fun i => cDriveD (x i)) n := sumN_mono _ (show k + 1 ≤ n from hlt)
      rw [sumN_succ] at hs1
      have hrk1 : layDrive.rd wr hi (mkDriveD (j + sumN (fun i => cDriveD (x i)) k) (x k)) ck := hrk
      clear hrk
      obtain ⟨J, hJ⟩ : ∃ J, J = j + sumN (fun i => cDriveD (x i)) k := ⟨_, rfl⟩
      have hJb : J + cDriveD (x k) ≤ 100000000 := by omega
      have HJ : Hid (J = j + sumN (fun i => cDriveD (x i)) k) := hJ
      rw [← hJ] at hrk1 ⊢
      clear hs1 hJ hc' hel
      have zr := hb.size
      unfold cDriveD at hJb
      obtain ⟨ao1, cap1, hck, r1⟩ := Drive_rd hrk1
      subst hck
      clear hrk1
      have c0_0 : wr.cell? ⟨b, off + k * 2, none⟩ = some (.bool (decide (J % 3 = 0))) := hcell 0 (by decide)
      have c0_1 : wr.cell? ⟨b, off + k * 2 + 1, none⟩ = some (.slice ao1 (x k).blocks.1 cap1) := hcell 1 (by decide)
      have R0_1 : Hid ((layBlock.slice 46).rd wr hi (((mkSl cBlockD mkBlockD) (J + 1) (x k).blocks)) [.slice ao1 (x k).blocks.1 cap1]) := r1
      clear hcell r1
      have hb3 : ((J : Int) % 3 == 0) = decide (J % 3 = 0) := b3_eq J
      have HB0 : Hid (Below w.heap.size w wr) := hb
      clear hb
      go_wp2_with fail
      refine (heldBlockS_is _ (x k).blocks hi (J + 1) _ R0_1.out (by omega) (by omega)).mono ?_
      rintro e w1 ⟨rfl, b1⟩
      have z1 : wr.heap.size ≤ w1.heap.size := b1.size
      have hz1 : ¬ (((J + 1 + (cSl cBlockD) (x k).blocks : Nat) : Int) < 0) := by omega
      have HB1 : Hid (Below w.heap.size w w1) := HB0.out.trans (b1.mono HB0.out.size)
      clear b1
      go_wp2_with fail
      go_roundw
      case rel =>
        exact ⟨k + 1, by omega, by go_num, val_eq (by
          have e1 := HJ.out
          have e2 : sumN (fun i => cDriveD (x i)) (k + 1) = sumN (fun i => cDriveD (x i)) k + cDriveD (x k) := rfl
          have e3 : cDriveD (x k) = 1 + (cSl cBlockD) (x k).blocks := rfl
          omega), HB1.out⟩
      case measure => simp [intOf]; omega
    · obtain rfl : k = n := by omega
      go_wp2
      go_ret
      exact ⟨rfl, hb⟩
set_option maxHeartbeats 8000000 in
set_option maxRecDepth 20000 in
theorem heldDriveSS_is : HdS ((layDrive.slice 84).slice 85) (cSl (cSl cDriveD)) (mkSl (cSl cDriveD) (mkSl cDriveD mkDriveD)) 89 := fun v d hi j w h hhi hj => by
  obtain ⟨n, x⟩ := d
  obtain ⟨ao, cap, hv, hm, hc⟩ := h
  have hv' : v = .slice ao n cap := one_eq hv
  subst hv'
  clear hv
  have hj' : j + sumN (fun i => (cSl cDriveD) (x i)) n ≤ 100000000 := hj
  have hm' : n ≤ maxLen := hm
  have hc' : n ≠ 0 → ∃ b off, ao = some ⟨b, off, none⟩ ∧ b < hi ∧ ∀ i, i < n → ∃ ce, (layDrive.slice 84).rd w hi ((mkSl cDriveD mkDriveD) (j + sumN (fun i => (cSl cDriveD) (x i)) i) (x i)) ce ∧ ∀ jj, jj < (layDrive.slice 84).sz → w.cell? ⟨b, off + (i * (layDrive.slice 84).sz + jj), none⟩ = ce[jj]? := hc
  clear hc hm hj
  unfold maxLen at hm'
  go_enter Tryz.func89, Tryz.ntmps89
  go_wp2
  go_loopw [1, 5] (fun y i wr => ∃ k : Nat, k ≤ n ∧ i = .int .i64 k ∧ y = .int .i64 ((j + sumN (fun i => (cSl cDriveD) (x i)) k : Nat) : Int) ∧ Below w.heap.size w wr) (fun _ i _ => n - (intOf i).toNat)
  case atStart => exact ⟨0, Nat.zero_le _, rfl, rfl, Below.refl _ _⟩
  case round =>
    obtain ⟨k, hk, rfl, rfl, hb⟩ := hrel
    by_cases hlt : k < n
    · obtain ⟨b, off, rfl, hblt, hel⟩ := hc' (by omega)
      obtain ⟨ck, hrk, hcell⟩ := elem_rd (t := 0) (x := fun i => (mkSl cDriveD mkDriveD) (j + sumN (fun i => (cSl cDriveD) (x i)) i) (x i)) hel hb hhi hblt hlt
      have hs1 : sumN (fun i => (cSl cDriveD) (x i)) (k + 1) ≤ sumN (fun i => (cSl cDriveD) (x i)) n := sumN_mono _ (show k + 1 ≤ n from hlt)
      rw [sumN_succ] at hs1
      have hrk1 : (layDrive.slice 84).rd wr hi ((mkSl cDriveD mkDriveD) (j + sumN (fun i => (cSl cDriveD) (x i)) k) (x k)) ck := hrk
      clear hrk
      obtain ⟨J, hJ⟩ : ∃ J, J = j + sumN (fun i => (cSl cDriveD) (x i)) k := ⟨_, rfl⟩
      have hJb : J + (cSl cDriveD) (x k) ≤ 100000000 := by omega
      have HJ : Hid (J = j + sumN (fun i => (cSl cDriveD) (x i)) k) := hJ
      rw [← hJ] at hrk1 ⊢
      clear hs1 hJ hc' hel
      have zr := hb.size
      obtain ⟨ao9, cap9, hck⟩ := sl_form hrk1
      subst hck
      have c0 : wr.cell? ⟨b, off + k, none⟩ = some (.slice ao9 (x k).1 cap9) := by
        have h := hcell 0 (show 0 < 1 by decide)
        rw [show (layDrive.slice 84).sz = 1 from rfl, Nat.mul_one, Nat.add_zero] at h
        exact h
      have R0 : Hid ((layDrive.slice 84).rd wr hi ((mkSl cDriveD mkDriveD) J (x k)) [.slice ao9 (x k).1 cap9]) := hrk1
      clear hrk1 hcell
      go_wp2_with fail
      refine (heldDriveS_is _ (x k) hi J _ R0.out (by omega) (by omega)).mono ?_
      rintro e w1 ⟨rfl, b1⟩
      have HB1 : Hid (Below w.heap.size w w1) := hb.trans (b1.mono hb.size)
      have hz : ¬ (((J + (cSl cDriveD) (x k) : Nat) : Int) < 0) := by omega
      clear b1 hb
      go_wp2_with fail
      go_roundw
      case rel =>
        exact ⟨k + 1, by omega, by go_num, val_eq (by
          have e1 := HJ.out
          have e2 : sumN (fun i => (cSl cDriveD) (x i)) (k + 1) = sumN (fun i => (cSl cDriveD) (x i)) k + (cSl cDriveD) (x k) := rfl
          have e3 : (cSl cDriveD) (x k) = (cSl cDriveD) (x k) := rfl
          omega), HB1.out⟩
      case measure => simp [intOf]; omega
    · obtain rfl : k = n := by omega
      go_wp2
      go_ret
      exact ⟨rfl, hb⟩
end Go.Proofs.YtbmfndjglndnlaaGreat

namespace Go.Proofs.YtbmfndjglndnlaaGreat
open Go.RowKit F256
set_option linter.unusedVariables false
set_option linter.unusedSimpArgs false
set_option maxHeartbeats 8000000 in
set_option maxRecDepth 20000 in
theorem heldRecS_is : HdS (layRec.slice 119) (cSl cRecD) (mkSl cRecD mkRecD) 124 := fun v d hi j w h hhi hj => by
  obtain ⟨n, x⟩ := d
  obtain ⟨ao, cap, hv, hm, hc⟩ := h
  have hv' : v = .slice ao n cap := one_eq hv
  subst hv'
  clear hv
  have hj' : j + sumN (fun i => cRecD (x i)) n ≤ 100000000 := hj
  have hm' : n ≤ maxLen := hm
  have hc' : n ≠ 0 → ∃ b off, ao = some ⟨b, off, none⟩ ∧ b < hi ∧ ∀ i, i < n → ∃ ce, layRec.rd w hi (mkRecD (j + sumN (fun i => cRecD (x i)) i) (x i)) ce ∧ ∀ jj, jj < layRec.sz → w.cell? ⟨b, off + (i * layRec.sz + jj), none⟩ = ce[jj]? := hc
  clear hc hm hj
  unfold maxLen at hm'
  go_enter Tryz.func124, Tryz.ntmps124
  go_wp2
  go_loopw [1, 5] (fun y i wr => ∃ k : Nat, k ≤ n ∧ i = .int .i64 k ∧ y = .int .i64 ((j + sumN (fun i => cRecD (x i)) k : Nat) : Int) ∧ Below w.heap.size w wr) (fun _ i _ => n - (intOf i).toNat)
  case atStart => exact ⟨0, Nat.zero_le _, rfl, rfl, Below.refl _ _⟩
  case round =>
    obtain ⟨k, hk, rfl, rfl, hb⟩ := hrel
    by_cases hlt : k < n
    · obtain ⟨b, off, rfl, hblt, hel⟩ := hc' (by omega)
      obtain ⟨ck, hrk, hcell⟩ := elem_rd (t := 0) (x := fun i => mkRecD (j + sumN (fun i => cRecD (x i)) i) (x i)) hel hb hhi hblt hlt
      have hs1 : sumN (fun i => cRecD (x i)) (k + 1) ≤ sumN (fun i => cRecD (x i)) n := sumN_mono _ (show k + 1 ≤ n from hlt)
      rw [sumN_succ] at hs1
      have hrk1 : layRec.rd wr hi (mkRecD (j + sumN (fun i => cRecD (x i)) k) (x k)) ck := hrk
      clear hrk
      obtain ⟨J, hJ⟩ : ∃ J, J = j + sumN (fun i => cRecD (x i)) k := ⟨_, rfl⟩
      have hJb : J + cRecD (x k) ≤ 100000000 := by omega
      have HJ : Hid (J = j + sumN (fun i => cRecD (x i)) k) := hJ
      rw [← hJ] at hrk1 ⊢
      clear hs1 hJ hc' hel
      have zr := hb.size
      unfold cRecD at hJb
      obtain ⟨ao6, cap6, ao7, cap7, ao8, cap8, hck, r6, r7, r8, -⟩ := Rec_rd hrk1
      subst hck
      clear hrk1
      have c0_0 : wr.cell? ⟨b, off + k * 9, none⟩ = some (.int .i64 ((J : Int))) := hcell 0 (by decide)
      have c0_1 : wr.cell? ⟨b, off + k * 9 + 1, none⟩ = some (.int .i64 ((J : Int) + 1)) := hcell 1 (by decide)
      have c0_2 : wr.cell? ⟨b, off + k * 9 + 2, none⟩ = some (.string (markT (J + 2))) := hcell 2 (by decide)
      have c0_3 : wr.cell? ⟨b, off + k * 9 + 3, none⟩ = some (.int .i64 ((J : Int) + 3)) := hcell 3 (by decide)
      have c0_4 : wr.cell? ⟨b, off + k * 9 + 4, none⟩ = some (.int .i64 ((J : Int) + 4)) := hcell 4 (by decide)
      have c0_5 : wr.cell? ⟨b, off + k * 9 + 5, none⟩ = some (.int .i64 ((J : Int) + 5)) := hcell 5 (by decide)
      have c0_6 : wr.cell? ⟨b, off + k * 9 + 6, none⟩ = some (.slice ao6 (x k).rows.1 cap6) := hcell 6 (by decide)
      have c0_7 : wr.cell? ⟨b, off + k * 9 + 7, none⟩ = some (.slice ao7 (x k).data.1 cap7) := hcell 7 (by decide)
      have c0_8 : wr.cell? ⟨b, off + k * 9 + 8, none⟩ = some (.slice ao8 (x k).delta.1 cap8) := hcell 8 (by decide)
      have R0_6 : Hid (layInts.rd wr hi ((mkInts (J + 6) (x k).rows)) [.slice ao6 (x k).rows.1 cap6]) := r6
      have R0_7 : Hid (layBytes.rd wr hi ((mkBytes (J + 6 + lenD (x k).rows) (x k).data)) [.slice ao7 (x k).data.1 cap7]) := r7
      have R0_8 : Hid (layBytes.rd wr hi ((mkBytes (J + 6 + lenD (x k).rows + lenD (x k).data) (x k).delta)) [.slice ao8 (x k).delta.1 cap8]) := r8
      clear hcell r6 r7 r8
      have HB0 : Hid (Below w.heap.size w wr) := hb
      clear hb
      have C1 := markText_any (J + 2) (by omega) (by omega) (wr.drewN 1)
      go_wp2
      go_region_with (go_at_call 122; refine C1.mono ?_; rintro ee w1 ⟨rfl, bt⟩; have cx : w1.cell? ⟨b, off + k * 9 + 2, none⟩ = some (.string (markT (J + 2))) := (bt.cell (p := ⟨b, off + k * 9 + 2, none⟩) (by show b < wr.heap.size; omega)).trans c0_2)
      all_goals
        have bu : Below wr.heap.size wr w1 := (below_drewN (Below.refl wr.heap.size wr) 1).trans bt
        have zt : wr.heap.size ≤ w1.heap.size := bt.size
        have c1_3 : w1.cell? ⟨b, off + k * 9 + 3, none⟩ = some (.int .i64 ((J : Int) + 3)) := (bt.cell (p := ⟨b, off + k * 9 + 3, none⟩) (by show b < wr.heap.size; omega)).trans c0_3
        have c1_4 : w1.cell? ⟨b, off + k * 9 + 4, none⟩ = some (.int .i64 ((J : Int) + 4)) := (bt.cell (p := ⟨b, off + k * 9 + 4, none⟩) (by show b < wr.heap.size; omega)).trans c0_4
        have c1_5 : w1.cell? ⟨b, off + k * 9 + 5, none⟩ = some (.int .i64 ((J : Int) + 5)) := (bt.cell (p := ⟨b, off + k * 9 + 5, none⟩) (by show b < wr.heap.size; omega)).trans c0_5
        have c1_6 : w1.cell? ⟨b, off + k * 9 + 6, none⟩ = some (.slice ao6 (x k).rows.1 cap6) := (bt.cell (p := ⟨b, off + k * 9 + 6, none⟩) (by show b < wr.heap.size; omega)).trans c0_6
        have c1_7 : w1.cell? ⟨b, off + k * 9 + 7, none⟩ = some (.slice ao7 (x k).data.1 cap7) := (bt.cell (p := ⟨b, off + k * 9 + 7, none⟩) (by show b < wr.heap.size; omega)).trans c0_7
        have c1_8 : w1.cell? ⟨b, off + k * 9 + 8, none⟩ = some (.slice ao8 (x k).delta.1 cap8) := (bt.cell (p := ⟨b, off + k * 9 + 8, none⟩) (by show b < wr.heap.size; omega)).trans c0_8
        have R1_6 : Hid (layInts.rd w1 hi ((mkInts (J + 6) (x k).rows)) [.slice ao6 (x k).rows.1 cap6]) := layInts.rd_below R0_6.out bu (by show hi ≤ wr.heap.size; omega)
        have R1_7 : Hid (layBytes.rd w1 hi ((mkBytes (J + 6 + lenD (x k).rows) (x k).data)) [.slice ao7 (x k).data.1 cap7]) := layBytes.rd_below R0_7.out bu (by show hi ≤ wr.heap.size; omega)
        have R1_8 : Hid (layBytes.rd w1 hi ((mkBytes (J + 6 + lenD (x k).rows + lenD (x k).data) (x k).delta)) [.slice ao8 (x k).delta.1 cap8]) := layBytes.rd_below R0_8.out bu (by show hi ≤ wr.heap.size; omega)
        have HB1 : Hid (Below w.heap.size w w1) := HB0.out.trans ((below_drewN (Below.refl wr.heap.size wr) 1).trans bt |>.mono HB0.out.size)
        clear bt bu C1
        go_wp2_with fail
        refine (heldInts_is _ (x k).rows hi (J + 6) _ R1_6.out (by omega) (by omega)).mono ?_
        rintro e w2 ⟨rfl, b2⟩
        have z2 : w1.heap.size ≤ w2.heap.size := b2.size
        have hz2 : ¬ (((J + 6 + lenD (x k).rows : Nat) : Int) < 0) := by omega
        have c2_7 : w2.cell? ⟨b, off + k * 9 + 7, none⟩ = some (.slice ao7 (x k).data.1 cap7) := (b2.cell (p := ⟨b, off + k * 9 + 7, none⟩) (by show b < w1.heap.size; omega)).trans c1_7
        have c2_8 : w2.cell? ⟨b, off + k * 9 + 8, none⟩ = some (.slice ao8 (x k).delta.1 cap8) := (b2.cell (p := ⟨b, off + k * 9 + 8, none⟩) (by show b < w1.heap.size; omega)).trans c1_8
        have R2_7 : Hid (layBytes.rd w2 hi ((mkBytes (J + 6 + lenD (x k).rows) (x k).data)) [.slice ao7 (x k).data.1 cap7]) := layBytes.rd_below R1_7.out b2 (by omega)
        have R2_8 : Hid (layBytes.rd w2 hi ((mkBytes (J + 6 + lenD (x k).rows + lenD (x k).data) (x k).delta)) [.slice ao8 (x k).delta.1 cap8]) := layBytes.rd_below R1_8.out b2 (by omega)
        have HB2 : Hid (Below w.heap.size w w2) := HB1.out.trans (b2.mono HB1.out.size)
        clear b2
        go_wp2_with fail
        refine (heldBytes_is _ (x k).data hi (J + 6 + lenD (x k).rows) _ R2_7.out (by omega) (by omega)).mono ?_
        rintro e w3 ⟨rfl, b3⟩
        have z3 : w2.heap.size ≤ w3.heap.size := b3.size
        have hz3 : ¬ (((J + 6 + lenD (x k).rows + lenD (x k).data : Nat) : Int) < 0) := by omega
        have c3_8 : w3.cell? ⟨b, off + k * 9 + 8, none⟩ = some (.slice ao8 (x k).delta.1 cap8) := (b3.cell (p := ⟨b, off + k * 9 + 8, none⟩) (by show b < w2.heap.size; omega)).trans c2_8
        have R3_8 : Hid (layBytes.rd w3 hi ((mkBytes (J + 6 + lenD (x k).rows + lenD (x k).data) (x k).delta)) [.slice ao8 (x k).delta.1 cap8]) := layBytes.rd_below R2_8.out b3 (by omega)
        have HB3 : Hid (Below w.heap.size w w3) := HB2.out.trans (b3.mono HB2.out.size)
        clear b3
        go_wp2_with fail
        refine (heldBytes_is _ (x k).delta hi (J + 6 + lenD (x k).rows + lenD (x k).data) _ R3_8.out (by omega) (by omega)).mono ?_
        rintro e w4 ⟨rfl, b4⟩
        have z4 : w3.heap.size ≤ w4.heap.size := b4.size
        have hz4 : ¬ (((J + 6 + lenD (x k).rows + lenD (x k).data + lenD (x k).delta : Nat) : Int) < 0) := by omega
        have HB4 : Hid (Below w.heap.size w w4) := HB3.out.trans (b4.mono HB3.out.size)
        clear b4
        go_wp2_with fail
        go_roundw
        case rel =>
          exact ⟨k + 1, by omega, by go_num, val_eq (by
            have e1 := HJ.out
            have e2 : sumN (fun i => cRecD (x i)) (k + 1) = sumN (fun i => cRecD (x i)) k + cRecD (x k) := rfl
            have e3 : cRecD (x k) = 6 + lenD (x k).rows + lenD (x k).data + lenD (x k).delta := rfl
            omega), HB4.out⟩
        case measure => simp [intOf]; omega
    · obtain rfl : k = n := by omega
      go_wp2
      go_ret
      exact ⟨rfl, hb⟩
set_option maxHeartbeats 8000000 in
set_option maxRecDepth 20000 in
theorem heldTapeS_is : HdS (layTape.slice 94) (cSl cTapeD) (mkSl cTapeD mkTapeD) 91 := fun v d hi j w h hhi hj => by
  obtain ⟨n, x⟩ := d
  obtain ⟨ao, cap, hv, hm, hc⟩ := h
  have hv' : v = .slice ao n cap := one_eq hv
  subst hv'
  clear hv
  have hj' : j + sumN (fun i => cTapeD (x i)) n ≤ 100000000 := hj
  have hm' : n ≤ maxLen := hm
  have hc' : n ≠ 0 → ∃ b off, ao = some ⟨b, off, none⟩ ∧ b < hi ∧ ∀ i, i < n → ∃ ce, layTape.rd w hi (mkTapeD (j + sumN (fun i => cTapeD (x i)) i) (x i)) ce ∧ ∀ jj, jj < layTape.sz → w.cell? ⟨b, off + (i * layTape.sz + jj), none⟩ = ce[jj]? := hc
  clear hc hm hj
  unfold maxLen at hm'
  go_enter Tryz.func91, Tryz.ntmps91
  go_wp2
  go_loopw [1, 5] (fun y i wr => ∃ k : Nat, k ≤ n ∧ i = .int .i64 k ∧ y = .int .i64 ((j + sumN (fun i => cTapeD (x i)) k : Nat) : Int) ∧ Below w.heap.size w wr) (fun _ i _ => n - (intOf i).toNat)
  case atStart => exact ⟨0, Nat.zero_le _, rfl, rfl, Below.refl _ _⟩
  case round =>
    obtain ⟨k, hk, rfl, rfl, hb⟩ := hrel
    by_cases hlt : k < n
    · obtain ⟨b, off, rfl, hblt, hel⟩ := hc' (by omega)
      obtain ⟨ck, hrk, hcell⟩ := elem_rd (t := 0) (x := fun i => mkTapeD (j + sumN (fun i => cTapeD (x i)) i) (x i)) hel hb hhi hblt hlt
      have hs1 : sumN (fun i => cTapeD (x i)) (k + 1) ≤ sumN (fun i => cTapeD (x i)) n := sumN_mono _ (show k + 1 ≤ n from hlt)
      rw [sumN_succ] at hs1
      have hrk1 : layTape.rd wr hi (mkTapeD (j + sumN (fun i => cTapeD (x i)) k) (x k)) ck := hrk
      clear hrk
      obtain ⟨J, hJ⟩ : ∃ J, J = j + sumN (fun i => cTapeD (x i)) k := ⟨_, rfl⟩
      have hJb : J + cTapeD (x k) ≤ 100000000 := by omega
      have HJ : Hid (J = j + sumN (fun i => cTapeD (x i)) k) := hJ
      rw [← hJ] at hrk1 ⊢
      clear hs1 hJ hc' hel
      have zr := hb.size
      unfold cTapeD at hJb
      obtain ⟨ao1, cap1, hck, r1⟩ := Tape_rd hrk1
      subst hck
      clear hrk1
      have c0_0 : wr.cell? ⟨b, off + k * 2, none⟩ = some (.bool (decide (J % 3 = 0))) := hcell 0 (by decide)
      have c0_1 : wr.cell? ⟨b, off + k * 2 + 1, none⟩ = some (.slice ao1 (x k).recs.1 cap1) := hcell 1 (by decide)
      have R0_1 : Hid ((layRec.slice 119).rd wr hi (((mkSl cRecD mkRecD) (J + 1) (x k).recs)) [.slice ao1 (x k).recs.1 cap1]) := r1
      clear hcell r1
      have hb3 : ((J : Int) % 3 == 0) = decide (J % 3 = 0) := b3_eq J
      have HB0 : Hid (Below w.heap.size w wr) := hb
      clear hb
      go_wp2_with fail
      refine (heldRecS_is _ (x k).recs hi (J + 1) _ R0_1.out (by omega) (by omega)).mono ?_
      rintro e w1 ⟨rfl, b1⟩
      have z1 : wr.heap.size ≤ w1.heap.size := b1.size
      have hz1 : ¬ (((J + 1 + (cSl cRecD) (x k).recs : Nat) : Int) < 0) := by omega
      have HB1 : Hid (Below w.heap.size w w1) := HB0.out.trans (b1.mono HB0.out.size)
      clear b1
      go_wp2_with fail
      go_roundw
      case rel =>
        exact ⟨k + 1, by omega, by go_num, val_eq (by
          have e1 := HJ.out
          have e2 : sumN (fun i => cTapeD (x i)) (k + 1) = sumN (fun i => cTapeD (x i)) k + cTapeD (x k) := rfl
          have e3 : cTapeD (x k) = 1 + (cSl cRecD) (x k).recs := rfl
          omega), HB1.out⟩
      case measure => simp [intOf]; omega
    · obtain rfl : k = n := by omega
      go_wp2
      go_ret
      exact ⟨rfl, hb⟩
end Go.Proofs.YtbmfndjglndnlaaGreat

namespace Go.Proofs.YtbmfndjglndnlaaGreat
open Go.RowKit F256
set_option linter.unusedVariables false
set_option linter.unusedSimpArgs false
set_option maxHeartbeats 4000000 in
theorem heldWorld_is : HdV layWorld cvWorldD mkvWorldD 54 := fun cs d hi j w h hhi hj => by
  obtain ⟨ao1, cap1, ao2, cap2, ao3, cap3, rfl, r1, r2, r3, -⟩ := World_rd h
  clear h
  unfold cvWorldD at hj ⊢
  have R1 : Hid (((layDrive.slice 84).slice 85).rd w hi ((mkSl (cSl cDriveD) (mkSl cDriveD mkDriveD)) (j) d.groups) [.slice ao1 d.groups.1 cap1]) := r1
  have R2 : Hid (layInts.rd w hi (mkInts (j + (cSl (cSl cDriveD)) d.groups) d.on) [.slice ao2 d.on.1 cap2]) := r2
  have R3 : Hid ((layTape.slice 94).rd w hi ((mkSl cTapeD mkTapeD) (j + (cSl (cSl cDriveD)) d.groups + lenD d.on) d.tapes) [.slice ao3 d.tapes.1 cap3]) := r3
  clear r1 r2 r3
  change Calls Tryz.prog 54 #[.agg #[.int .i64 (d.shape 0), .int .i64 (d.shape 1), .int .i64 (d.shape 2), .int .i64 (d.shape 3), .int .i64 (d.shape 4), .int .i64 (d.shape 5), .int .i64 (d.shape 6), .int .i64 (d.shape 7), .int .i64 (d.shape 8), .slice ao1 d.groups.1 cap1, .slice ao2 d.on.1 cap2, .slice ao3 d.tapes.1 cap3, .int .i64 d.writes, .int .i64 d.stop, .bool d.down], .int .i64 j] w _
  go_enter Tryz.func54, Tryz.ntmps54
  go_wp2_with fail
  have T0 := one_new w #[.int .i64 (d.shape 0), .int .i64 (d.shape 1), .int .i64 (d.shape 2), .int .i64 (d.shape 3), .int .i64 (d.shape 4), .int .i64 (d.shape 5), .int .i64 (d.shape 6), .int .i64 (d.shape 7), .int .i64 (d.shape 8), .slice ao1 d.groups.1 cap1, .slice ao2 d.on.1 cap2, .slice ao3 d.tapes.1 cap3, .int .i64 d.writes, .int .i64 d.stop, .bool d.down] 34
  refine (heldDriveSS_is _ d.groups hi (j) _ (((layDrive.slice 84).slice 85).rd_below R1.out T0.bel hhi) (Nat.le_trans hhi T0.bel.size) (by omega)).mono ?_
  rintro e w1 ⟨rfl, b1⟩
  have T1 : One w w1 #[.int .i64 (d.shape 0), .int .i64 (d.shape 1), .int .i64 (d.shape 2), .int .i64 (d.shape 3), .int .i64 (d.shape 4), .int .i64 (d.shape 5), .int .i64 (d.shape 6), .int .i64 (d.shape 7), .int .i64 (d.shape 8), .slice ao1 d.groups.1 cap1, .slice ao2 d.on.1 cap2, .slice ao3 d.tapes.1 cap3, .int .i64 d.writes, .int .i64 d.stop, .bool d.down] 34 := T0.call b1
  have hz1 : ¬ (((j + (cSl (cSl cDriveD)) d.groups : Nat) : Int) < 0) := by omega
  have x1_10 : w1.cell? ⟨w.heap.size, 10, none⟩ = some (.slice ao2 d.on.1 cap2) := T1.b1.cell 10
  clear b1
  go_wp2_with fail
  refine (heldInts_is _ d.on hi (j + (cSl (cSl cDriveD)) d.groups) _ (layInts.rd_below R2.out T1.bel hhi) (Nat.le_trans hhi T1.bel.size) (by omega)).mono ?_
  rintro e w2 ⟨rfl, b2⟩
  have T2 : One w w2 #[.int .i64 (d.shape 0), .int .i64 (d.shape 1), .int .i64 (d.shape 2), .int .i64 (d.shape 3), .int .i64 (d.shape 4), .int .i64 (d.shape 5), .int .i64 (d.shape 6), .int .i64 (d.shape 7), .int .i64 (d.shape 8), .slice ao1 d.groups.1 cap1, .slice ao2 d.on.1 cap2, .slice ao3 d.tapes.1 cap3, .int .i64 d.writes, .int .i64 d.stop, .bool d.down] 34 := T1.call b2
  have hz2 : ¬ (((j + (cSl (cSl cDriveD)) d.groups + lenD d.on : Nat) : Int) < 0) := by omega
  have x2_11 : w2.cell? ⟨w.heap.size, 11, none⟩ = some (.slice ao3 d.tapes.1 cap3) := T2.b1.cell 11
  clear b2
  go_wp2_with fail
  refine (heldTapeS_is _ d.tapes hi (j + (cSl (cSl cDriveD)) d.groups + lenD d.on) _ ((layTape.slice 94).rd_below R3.out T2.bel hhi) (Nat.le_trans hhi T2.bel.size) (by omega)).mono ?_
  rintro e w3 ⟨rfl, b3⟩
  have T3 : One w w3 #[.int .i64 (d.shape 0), .int .i64 (d.shape 1), .int .i64 (d.shape 2), .int .i64 (d.shape 3), .int .i64 (d.shape 4), .int .i64 (d.shape 5), .int .i64 (d.shape 6), .int .i64 (d.shape 7), .int .i64 (d.shape 8), .slice ao1 d.groups.1 cap1, .slice ao2 d.on.1 cap2, .slice ao3 d.tapes.1 cap3, .int .i64 d.writes, .int .i64 d.stop, .bool d.down] 34 := T2.call b3
  have hz3 : ¬ (((j + (cSl (cSl cDriveD)) d.groups + lenD d.on + (cSl cTapeD) d.tapes : Nat) : Int) < 0) := by omega
  have HB : Hid (Below w.heap.size w w3) := T3.bel
  clear b3 T3
  go_wp2
  go_ret
  exact ⟨ret_eq (by omega), HB.out⟩
set_option maxHeartbeats 4000000 in
theorem heldWorldResult_is : HdV layWorldResult cvWorldResultD mkvWorldResultD 17 := fun cs d hi j w h hhi hj => by
  obtain ⟨ao1_1, cap1_1, ao1_2, cap1_2, ao1_3, cap1_3, rfl, r1, -⟩ := WorldResult_rd h
  clear h
  unfold cvWorldResultD at hj ⊢
  have R1 := (show Hid (layWorld.rd w hi (mkvWorldD (j) d.world) _) from r1)
  clear r1
  change Calls Tryz.prog 17 #[.agg #[.int .i64 d.code, .int .i64 (d.world.shape 0), .int .i64 (d.world.shape 1), .int .i64 (d.world.shape 2), .int .i64 (d.world.shape 3), .int .i64 (d.world.shape 4), .int .i64 (d.world.shape 5), .int .i64 (d.world.shape 6), .int .i64 (d.world.shape 7), .int .i64 (d.world.shape 8), .slice ao1_1 d.world.groups.1 cap1_1, .slice ao1_2 d.world.on.1 cap1_2, .slice ao1_3 d.world.tapes.1 cap1_3, .int .i64 d.world.writes, .int .i64 d.world.stop, .bool d.world.down], .int .i64 j] w _
  go_enter Tryz.func17, Tryz.ntmps17
  go_wp2_with fail
  have T0 := one_new w #[.int .i64 d.code, .int .i64 (d.world.shape 0), .int .i64 (d.world.shape 1), .int .i64 (d.world.shape 2), .int .i64 (d.world.shape 3), .int .i64 (d.world.shape 4), .int .i64 (d.world.shape 5), .int .i64 (d.world.shape 6), .int .i64 (d.world.shape 7), .int .i64 (d.world.shape 8), .slice ao1_1 d.world.groups.1 cap1_1, .slice ao1_2 d.world.on.1 cap1_2, .slice ao1_3 d.world.tapes.1 cap1_3, .int .i64 d.world.writes, .int .i64 d.world.stop, .bool d.world.down] 36
  refine (heldWorld_is _ d.world hi (j) _ (layWorld.rd_below R1.out T0.bel hhi) (Nat.le_trans hhi T0.bel.size) (by omega)).mono ?_
  rintro e w1 ⟨rfl, b1⟩
  have T1 : One w w1 #[.int .i64 d.code, .int .i64 (d.world.shape 0), .int .i64 (d.world.shape 1), .int .i64 (d.world.shape 2), .int .i64 (d.world.shape 3), .int .i64 (d.world.shape 4), .int .i64 (d.world.shape 5), .int .i64 (d.world.shape 6), .int .i64 (d.world.shape 7), .int .i64 (d.world.shape 8), .slice ao1_1 d.world.groups.1 cap1_1, .slice ao1_2 d.world.on.1 cap1_2, .slice ao1_3 d.world.tapes.1 cap1_3, .int .i64 d.world.writes, .int .i64 d.world.stop, .bool d.world.down] 36 := T0.call b1
  have hz1 : ¬ (((j + cvWorldD d.world : Nat) : Int) < 0) := by omega
  have HB : Hid (Below w.heap.size w w1) := T1.bel
  clear b1 T1
  go_wp2
  go_ret
  exact ⟨ret_eq (by omega), HB.out⟩
set_option maxHeartbeats 4000000 in
theorem heldBlock_is : HdV layBlock cvBlockD mkvBlockD 65 := fun cs d hi j w h hhi hj => by
  obtain ⟨ao1, cap1, rfl, r1, -⟩ := Block_rd h
  clear h
  unfold cvBlockD at hj ⊢
  have R1 : Hid (layBytes.rd w hi (mkBytes (j) d.bytes) [.slice ao1 d.bytes.1 cap1]) := r1
  clear r1
  change Calls Tryz.prog 65 #[.agg #[.int .i64 d.stamp, .slice ao1 d.bytes.1 cap1], .int .i64 j] w _
  go_enter Tryz.func65, Tryz.ntmps65
  go_wp2_with fail
  have T0 := one_new w #[.int .i64 d.stamp, .slice ao1 d.bytes.1 cap1] 46
  refine (heldBytes_is _ d.bytes hi (j) _ (layBytes.rd_below R1.out T0.bel hhi) (Nat.le_trans hhi T0.bel.size) (by omega)).mono ?_
  rintro e w1 ⟨rfl, b1⟩
  have T1 : One w w1 #[.int .i64 d.stamp, .slice ao1 d.bytes.1 cap1] 46 := T0.call b1
  have hz1 : ¬ (((j + lenD d.bytes : Nat) : Int) < 0) := by omega
  have HB : Hid (Below w.heap.size w w1) := T1.bel
  clear b1 T1
  go_wp2
  go_ret
  exact ⟨ret_eq (by omega), HB.out⟩
set_option maxHeartbeats 4000000 in
theorem heldBlockResult_is : HdV layBlockResult cvBlockResultD mkvBlockResultD 24 := fun cs d hi j w h hhi hj => by
  obtain ⟨ao1_1, cap1_1, rfl, r1, -⟩ := BlockResult_rd h
  clear h
  unfold cvBlockResultD at hj ⊢
  have R1 := (show Hid (layBlock.rd w hi (mkvBlockD (j) d.block) _) from r1)
  clear r1
  change Calls Tryz.prog 24 #[.agg #[.int .i64 d.code, .int .i64 d.block.stamp, .slice ao1_1 d.block.bytes.1 cap1_1], .int .i64 j] w _
  go_enter Tryz.func24, Tryz.ntmps24
  go_wp2_with fail
  have T0 := one_new w #[.int .i64 d.code, .int .i64 d.block.stamp, .slice ao1_1 d.block.bytes.1 cap1_1] 48
  refine (heldBlock_is _ d.block hi (j) _ (layBlock.rd_below R1.out T0.bel hhi) (Nat.le_trans hhi T0.bel.size) (by omega)).mono ?_
  rintro e w1 ⟨rfl, b1⟩
  have T1 : One w w1 #[.int .i64 d.code, .int .i64 d.block.stamp, .slice ao1_1 d.block.bytes.1 cap1_1] 48 := T0.call b1
  have hz1 : ¬ (((j + cvBlockD d.block : Nat) : Int) < 0) := by omega
  have HB : Hid (Below w.heap.size w w1) := T1.bel
  clear b1 T1
  go_wp2
  go_ret
  exact ⟨ret_eq (by omega), HB.out⟩
end Go.Proofs.YtbmfndjglndnlaaGreat

namespace Go.Proofs.YtbmfndjglndnlaaGreat
open Go.RowKit F256
set_option linter.unusedVariables false
set_option linter.unusedSimpArgs false
set_option maxHeartbeats 4000000 in
theorem szBlock_is : SzV layBlock szBlockD 154 := fun cs d hi L w r hhi hL => by
  obtain ⟨ao1, cap1, rfl, r1, k0⟩ := Block_rd r
  clear r
  unfold szBlockD
  have R1 : Hid (layBytes.rd w hi d.bytes [.slice ao1 d.bytes.1 cap1]) := r1
  clear r1
  go_enter Tryz.func154, Tryz.ntmps154
  go_wp2_with fail
  have T0 := one_new w #[.int .i64 d.stamp, .slice ao1 d.bytes.1 cap1] 158
  refine (szBytes_is _ d.bytes hi L _ (layBytes.rd_below R1.out T0.bel hhi) (Nat.le_trans hhi T0.bel.size) (by omega)).mono ?_
  rintro e w1 ⟨y1, rfl, s1, b1⟩
  have T1 : One w w1 #[.int .i64 d.stamp, .slice ao1 d.bytes.1 cap1] 158 := T0.call b1
  have HB1 : Hid (Below w.heap.size w w1) := T1.bel
  rcases s1 with rfl | ⟨l1, hy1⟩
  · clear T1 T0 b1
    go_wp2
    go_ret
    exact ⟨-1, rfl, .inl rfl, HB1.out⟩
  obtain ⟨M1, hM1⟩ : ∃ M : Nat, M + lenD d.bytes = L := ⟨L - lenD d.bytes, by omega⟩
  obtain rfl : y1 = ((M1 : Nat) : Int) := by omega
  have HM1 : Hid (M1 + lenD d.bytes = L) := hM1
  have hML1 : M1 ≤ L := by omega
  have hz1 : ¬ ((M1 : Int) < 0) := by omega
  clear hM1 hy1 l1 T0 b1
  clear T1
  go_wp2
  go_ret
  exact ⟨M1, rfl, .inr ⟨by have e0 := HM1.out; omega, by have e0 := HM1.out; omega⟩, HB1.out⟩
set_option maxHeartbeats 4000000 in
theorem szBlockS_is : SzS (layBlock.slice 46) (szSl szBlockD) 138 := fun v d hi L w h hhi hL => by
  obtain ⟨n, x⟩ := d
  obtain ⟨ao, cap, hv, hm, hc⟩ := h
  cases hv
  simp only at hm hc
  unfold maxLen at hm
  by_cases hnL : L < n
  · clear hc
    have hz : (L : Int) - (n : Int) < 0 := by omega
    go_enter Tryz.func138, Tryz.ntmps138
    go_wp2
    go_ret
    exact ⟨-1, rfl, .inl rfl, Below.refl _ _⟩
  · have hz : ¬ (L : Int) - (n : Int) < 0 := by omega
    go_enter Tryz.func138, Tryz.ntmps138
    go_wp2
    go_loopw [1, 5] (fun y i wr => ∃ k M : Nat, k ≤ n ∧ i = .int .i64 k ∧ y = .int .i64 M ∧ M + n + sumN (fun i => szBlockD (x i)) k = L ∧ Below w.heap.size w wr) (fun _ i _ => n - (intOf i).toNat)
    case atStart => exact ⟨0, L - n, Nat.zero_le _, rfl, val_eq (by omega), by simp [sumN]; omega, Below.refl _ _⟩
    case round =>
      obtain ⟨k, M, hk, rfl, rfl, hM, hb⟩ := hrel
      have HM : Hid (M + n + sumN (fun i => szBlockD (x i)) k = L) := hM
      have hML : M ≤ L := by omega
      clear hM
      by_cases hlt : k < n
      · obtain ⟨b, off, rfl, hblt, hel⟩ := hc (by omega)
        obtain ⟨ck, hrk, hcell⟩ := elem_rd (t := 0) hel hb hhi hblt hlt
        obtain ⟨ao1, cap1, rfl, -⟩ := Block_rd hrk
        have c0 : wr.cell? ⟨b, off + k * 2, none⟩ = some (.int .i64 (x k).stamp) := hcell 0 (by decide)
        have c1 : wr.cell? ⟨b, off + k * 2 + 1, none⟩ = some (.slice ao1 (x k).bytes.1 cap1) := hcell 1 (by decide)
        clear hc hel hcell
        go_wp2_with fail
        refine (szBlock_is _ (x k) hi M _ hrk (Nat.le_trans hhi hb.size) (by omega)).mono ?_
        rintro e w2 ⟨y, rfl, s, b2⟩
        have HB : Hid (Below w.heap.size w w2) := hb.trans (b2.mono hb.size)
        clear b2 hb hrk
        rcases s with rfl | ⟨l1, hy⟩
        · go_wp2
          go_ret
          exact ⟨-1, rfl, .inl rfl, HB.out⟩
        · obtain ⟨M', hM'⟩ : ∃ M' : Nat, M' + szBlockD (x k) = M := ⟨M - szBlockD (x k), by omega⟩
          obtain rfl : y = (M' : Int) := by omega
          have HM' : Hid (M' + szBlockD (x k) = M) := hM'
          have hz2 : ¬ ((M' : Int) < 0) := by omega
          clear hM' hy l1
          go_wp2_with fail
          go_roundw
          case rel => exact ⟨k + 1, M', by omega, by go_num, rfl, by
                have e1 := HM.out
                have e2 := HM'.out
                have e3 : sumN (fun i => szBlockD (x i)) (k + 1) = sumN (fun i => szBlockD (x i)) k + szBlockD (x k) := rfl
                omega, HB.out⟩
          case measure => simp [intOf]; omega
      · obtain rfl : k = n := by omega
        go_wp2
        go_ret
        exact ⟨M, rfl, .inr ⟨by
          have e1 := HM.out
          show k + sumN (fun i => szBlockD (x i)) k ≤ L
          omega, by
          have e1 := HM.out
          show (M : Int) = (L : Int) - ((k + sumN (fun i => szBlockD (x i)) k : Nat) : Int)
          omega⟩, hb⟩
set_option maxHeartbeats 4000000 in
theorem szDrive_is : SzV layDrive szDriveD 110 := fun cs d hi L w r hhi hL => by
  obtain ⟨ao1, cap1, rfl, r1⟩ := Drive_rd r
  clear r
  unfold szDriveD
  have R1 : Hid ((layBlock.slice 46).rd w hi d.blocks [.slice ao1 d.blocks.1 cap1]) := r1
  clear r1
  go_enter Tryz.func110, Tryz.ntmps110
  go_wp2_with fail
  have T0 := one_new w #[.bool d.wiped, .slice ao1 d.blocks.1 cap1] 127
  refine (szBlockS_is _ d.blocks hi L _ ((layBlock.slice 46).rd_below R1.out T0.bel hhi) (Nat.le_trans hhi T0.bel.size) (by omega)).mono ?_
  rintro e w1 ⟨y1, rfl, s1, b1⟩
  have T1 : One w w1 #[.bool d.wiped, .slice ao1 d.blocks.1 cap1] 127 := T0.call b1
  have HB1 : Hid (Below w.heap.size w w1) := T1.bel
  rcases s1 with rfl | ⟨l1, hy1⟩
  · clear T1 T0 b1
    go_wp2
    go_ret
    exact ⟨-1, rfl, .inl rfl, HB1.out⟩
  obtain ⟨M1, hM1⟩ : ∃ M : Nat, M + (szSl szBlockD) d.blocks = L := ⟨L - (szSl szBlockD) d.blocks, by omega⟩
  obtain rfl : y1 = ((M1 : Nat) : Int) := by omega
  have HM1 : Hid (M1 + (szSl szBlockD) d.blocks = L) := hM1
  have hML1 : M1 ≤ L := by omega
  have hz1 : ¬ ((M1 : Int) < 0) := by omega
  clear hM1 hy1 l1 T0 b1
  clear T1
  go_wp2
  go_ret
  exact ⟨M1, rfl, .inr ⟨by have e0 := HM1.out; omega, by have e0 := HM1.out; omega⟩, HB1.out⟩
set_option maxHeartbeats 4000000 in
theorem szDriveS_is : SzS (layDrive.slice 84) (szSl szDriveD) 72 := fun v d hi L w h hhi hL => by
  obtain ⟨n, x⟩ := d
  obtain ⟨ao, cap, hv, hm, hc⟩ := h
  cases hv
  simp only at hm hc
  unfold maxLen at hm
  by_cases hnL : L < n
  · clear hc
    have hz : (L : Int) - (n : Int) < 0 := by omega
    go_enter Tryz.func72, Tryz.ntmps72
    go_wp2
    go_ret
    exact ⟨-1, rfl, .inl rfl, Below.refl _ _⟩
  · have hz : ¬ (L : Int) - (n : Int) < 0 := by omega
    go_enter Tryz.func72, Tryz.ntmps72
    go_wp2
    go_loopw [1, 5] (fun y i wr => ∃ k M : Nat, k ≤ n ∧ i = .int .i64 k ∧ y = .int .i64 M ∧ M + n + sumN (fun i => szDriveD (x i)) k = L ∧ Below w.heap.size w wr) (fun _ i _ => n - (intOf i).toNat)
    case atStart => exact ⟨0, L - n, Nat.zero_le _, rfl, val_eq (by omega), by simp [sumN]; omega, Below.refl _ _⟩
    case round =>
      obtain ⟨k, M, hk, rfl, rfl, hM, hb⟩ := hrel
      have HM : Hid (M + n + sumN (fun i => szDriveD (x i)) k = L) := hM
      have hML : M ≤ L := by omega
      clear hM
      by_cases hlt : k < n
      · obtain ⟨b, off, rfl, hblt, hel⟩ := hc (by omega)
        obtain ⟨ck, hrk, hcell⟩ := elem_rd (t := 0) hel hb hhi hblt hlt
        obtain ⟨ao1, cap1, rfl, -⟩ := Drive_rd hrk
        have c0 : wr.cell? ⟨b, off + k * 2, none⟩ = some (.bool (x k).wiped) := hcell 0 (by decide)
        have c1 : wr.cell? ⟨b, off + k * 2 + 1, none⟩ = some (.slice ao1 (x k).blocks.1 cap1) := hcell 1 (by decide)
        clear hc hel hcell
        go_wp2_with fail
        refine (szDrive_is _ (x k) hi M _ hrk (Nat.le_trans hhi hb.size) (by omega)).mono ?_
        rintro e w2 ⟨y, rfl, s, b2⟩
        have HB : Hid (Below w.heap.size w w2) := hb.trans (b2.mono hb.size)
        clear b2 hb hrk
        rcases s with rfl | ⟨l1, hy⟩
        · go_wp2
          go_ret
          exact ⟨-1, rfl, .inl rfl, HB.out⟩
        · obtain ⟨M', hM'⟩ : ∃ M' : Nat, M' + szDriveD (x k) = M := ⟨M - szDriveD (x k), by omega⟩
          obtain rfl : y = (M' : Int) := by omega
          have HM' : Hid (M' + szDriveD (x k) = M) := hM'
          have hz2 : ¬ ((M' : Int) < 0) := by omega
          clear hM' hy l1
          go_wp2_with fail
          go_roundw
          case rel => exact ⟨k + 1, M', by omega, by go_num, rfl, by
                have e1 := HM.out
                have e2 := HM'.out
                have e3 : sumN (fun i => szDriveD (x i)) (k + 1) = sumN (fun i => szDriveD (x i)) k + szDriveD (x k) := rfl
                omega, HB.out⟩
          case measure => simp [intOf]; omega
      · obtain rfl : k = n := by omega
        go_wp2
        go_ret
        exact ⟨M, rfl, .inr ⟨by
          have e1 := HM.out
          show k + sumN (fun i => szDriveD (x i)) k ≤ L
          omega, by
          have e1 := HM.out
          show (M : Int) = (L : Int) - ((k + sumN (fun i => szDriveD (x i)) k : Nat) : Int)
          omega⟩, hb⟩
set_option maxHeartbeats 4000000 in
theorem szDriveSS_is : SzS ((layDrive.slice 84).slice 85) (szSl (szSl szDriveD)) 31 := fun v d hi L w h hhi hL => by
  obtain ⟨n, x⟩ := d
  obtain ⟨ao, cap, hv, hm, hc⟩ := h
  cases hv
  simp only at hm hc
  unfold maxLen at hm
  by_cases hnL : L < n
  · clear hc
    have hz : (L : Int) - (n : Int) < 0 := by omega
    go_enter Tryz.func31, Tryz.ntmps31
    go_wp2
    go_ret
    exact ⟨-1, rfl, .inl rfl, Below.refl _ _⟩
  · have hz : ¬ (L : Int) - (n : Int) < 0 := by omega
    go_enter Tryz.func31, Tryz.ntmps31
    go_wp2
    go_loopw [1, 5] (fun y i wr => ∃ k M : Nat, k ≤ n ∧ i = .int .i64 k ∧ y = .int .i64 M ∧ M + n + sumN (fun i => (szSl szDriveD) (x i)) k = L ∧ Below w.heap.size w wr) (fun _ i _ => n - (intOf i).toNat)
    case atStart => exact ⟨0, L - n, Nat.zero_le _, rfl, val_eq (by omega), by simp [sumN]; omega, Below.refl _ _⟩
    case round =>
      obtain ⟨k, M, hk, rfl, rfl, hM, hb⟩ := hrel
      have HM : Hid (M + n + sumN (fun i => (szSl szDriveD) (x i)) k = L) := hM
      have hML : M ≤ L := by omega
      clear hM
      by_cases hlt : k < n
      · obtain ⟨b, off, rfl, hblt, hel⟩ := hc (by omega)
        obtain ⟨ck, hrk, hcell⟩ := elem_rd (t := 0) hel hb hhi hblt hlt
        obtain ⟨ao9, cap9, rfl⟩ := sl_form hrk
        have c0 : wr.cell? ⟨b, off + k, none⟩ = some (.slice ao9 (x k).1 cap9) := by
          have h := hcell 0 (show 0 < 1 by decide)
          rw [show (layDrive.slice 84).sz = 1 from rfl, Nat.mul_one, Nat.add_zero] at h
          exact h
        clear hc hel hcell
        go_wp2_with fail
        refine (szDriveS_is _ (x k) hi M _ hrk (Nat.le_trans hhi hb.size) (by omega)).mono ?_
        rintro e w2 ⟨y, rfl, s, b2⟩
        have HB : Hid (Below w.heap.size w w2) := hb.trans (b2.mono hb.size)
        clear b2 hb hrk
        rcases s with rfl | ⟨l1, hy⟩
        · go_wp2
          go_ret
          exact ⟨-1, rfl, .inl rfl, HB.out⟩
        · obtain ⟨M', hM'⟩ : ∃ M' : Nat, M' + (szSl szDriveD) (x k) = M := ⟨M - (szSl szDriveD) (x k), by omega⟩
          obtain rfl : y = (M' : Int) := by omega
          have HM' : Hid (M' + (szSl szDriveD) (x k) = M) := hM'
          have hz2 : ¬ ((M' : Int) < 0) := by omega
          clear hM' hy l1
          go_wp2_with fail
          go_roundw
          case rel => exact ⟨k + 1, M', by omega, by go_num, rfl, by
                have e1 := HM.out
                have e2 := HM'.out
                have e3 : sumN (fun i => (szSl szDriveD) (x i)) (k + 1) = sumN (fun i => (szSl szDriveD) (x i)) k + (szSl szDriveD) (x k) := rfl
                omega, HB.out⟩
          case measure => simp [intOf]; omega
      · obtain rfl : k = n := by omega
        go_wp2
        go_ret
        exact ⟨M, rfl, .inr ⟨by
          have e1 := HM.out
          show k + sumN (fun i => (szSl szDriveD) (x i)) k ≤ L
          omega, by
          have e1 := HM.out
          show (M : Int) = (L : Int) - ((k + sumN (fun i => (szSl szDriveD) (x i)) k : Nat) : Int)
          omega⟩, hb⟩
end Go.Proofs.YtbmfndjglndnlaaGreat

namespace Go.Proofs.YtbmfndjglndnlaaGreat
open Go.RowKit F256
set_option linter.unusedVariables false
set_option linter.unusedSimpArgs false
set_option maxHeartbeats 4000000 in
theorem szRec_is : SzV layRec szRecD 139 := fun cs d hi L w r hhi hL => by
  obtain ⟨ao6, cap6, ao7, cap7, ao8, cap8, rfl, r6, r7, r8, k0, k1, k2, k3, k4, k5⟩ := Rec_rd r
  clear r
  unfold szRecD
  have R6 : Hid (layInts.rd w hi d.rows [.slice ao6 d.rows.1 cap6]) := r6
  have R7 : Hid (layBytes.rd w hi d.data [.slice ao7 d.data.1 cap7]) := r7
  have R8 : Hid (layBytes.rd w hi d.delta [.slice ao8 d.delta.1 cap8]) := r8
  clear r6 r7 r8
  unfold maxLen at k2
  by_cases hnm : L < d.name.size
  · have hz : (L : Int) - (d.name.size : Int) < 0 := by omega
    go_enter Tryz.func139, Tryz.ntmps139
    go_wp2
    go_ret
    exact ⟨-1, rfl, .inl rfl, (one_new w _ _).bel⟩
  · have hz : ¬ (L : Int) - (d.name.size : Int) < 0 := by omega
    obtain ⟨M0, hM0⟩ : ∃ M0 : Nat, M0 + d.name.size = L := ⟨L - d.name.size, by omega⟩
    have eM0 : (L : Int) - (d.name.size : Int) = (M0 : Int) := by omega
    go_enter Tryz.func139, Tryz.ntmps139
    go_wp2_with fail
    have T0 := one_new w #[.int .i64 d.kind, .int .i64 d.seq, .string d.name, .int .i64 d.length, .int .i64 d.group, .int .i64 d.row, .slice ao6 d.rows.1 cap6, .slice ao7 d.data.1 cap7, .slice ao8 d.delta.1 cap8] 148
    have HM0 : Hid (M0 + d.name.size = L) := hM0
    have hML0 : M0 ≤ L := by omega
    first | rw [eM0] | skip
    clear hM0
    refine (szInts_is _ d.rows hi M0 _ (layInts.rd_below R6.out T0.bel hhi) (Nat.le_trans hhi T0.bel.size) (by omega)).mono ?_
    rintro e w1 ⟨y1, rfl, s1, b1⟩
    have T1 : One w w1 #[.int .i64 d.kind, .int .i64 d.seq, .string d.name, .int .i64 d.length, .int .i64 d.group, .int .i64 d.row, .slice ao6 d.rows.1 cap6, .slice ao7 d.data.1 cap7, .slice ao8 d.delta.1 cap8] 148 := T0.call b1
    have x1_7 : w1.cell? ⟨w.heap.size, 7, none⟩ = some (.slice ao7 d.data.1 cap7) := T1.b1.cell 7
    have HB1 : Hid (Below w.heap.size w w1) := T1.bel
    rcases s1 with rfl | ⟨l1, hy1⟩
    · clear T1 T0 b1
      go_wp2
      go_ret
      exact ⟨-1, rfl, .inl rfl, HB1.out⟩
    obtain ⟨M1, hM1⟩ : ∃ M : Nat, M + lenD d.rows = M0 := ⟨M0 - lenD d.rows, by omega⟩
    obtain rfl : y1 = ((M1 : Nat) : Int) := by omega
    have HM1 : Hid (M1 + lenD d.rows = M0) := hM1
    have hML1 : M1 ≤ M0 := by omega
    have hz1 : ¬ ((M1 : Int) < 0) := by omega
    clear hM1 hy1 l1 T0 b1
    go_wp2_with fail
    refine (szBytes_is _ d.data hi M1 _ (layBytes.rd_below R7.out T1.bel hhi) (Nat.le_trans hhi T1.bel.size) (by omega)).mono ?_
    rintro e w2 ⟨y2, rfl, s2, b2⟩
    have T2 : One w w2 #[.int .i64 d.kind, .int .i64 d.seq, .string d.name, .int .i64 d.length, .int .i64 d.group, .int .i64 d.row, .slice ao6 d.rows.1 cap6, .slice ao7 d.data.1 cap7, .slice ao8 d.delta.1 cap8] 148 := T1.call b2
    have x2_8 : w2.cell? ⟨w.heap.size, 8, none⟩ = some (.slice ao8 d.delta.1 cap8) := T2.b1.cell 8
    have HB2 : Hid (Below w.heap.size w w2) := T2.bel
    rcases s2 with rfl | ⟨l2, hy2⟩
    · clear T2 T1 b2
      go_wp2
      go_ret
      exact ⟨-1, rfl, .inl rfl, HB2.out⟩
    obtain ⟨M2, hM2⟩ : ∃ M : Nat, M + lenD d.data = M1 := ⟨M1 - lenD d.data, by omega⟩
    obtain rfl : y2 = ((M2 : Nat) : Int) := by omega
    have HM2 : Hid (M2 + lenD d.data = M1) := hM2
    have hML2 : M2 ≤ M1 := by omega
    have hz2 : ¬ ((M2 : Int) < 0) := by omega
    clear hM2 hy2 l2 T1 b2
    go_wp2_with fail
    refine (szBytes_is _ d.delta hi M2 _ (layBytes.rd_below R8.out T2.bel hhi) (Nat.le_trans hhi T2.bel.size) (by omega)).mono ?_
    rintro e w3 ⟨y3, rfl, s3, b3⟩
    have T3 : One w w3 #[.int .i64 d.kind, .int .i64 d.seq, .string d.name, .int .i64 d.length, .int .i64 d.group, .int .i64 d.row, .slice ao6 d.rows.1 cap6, .slice ao7 d.data.1 cap7, .slice ao8 d.delta.1 cap8] 148 := T2.call b3
    have HB3 : Hid (Below w.heap.size w w3) := T3.bel
    rcases s3 with rfl | ⟨l3, hy3⟩
    · clear T3 T2 b3
      go_wp2
      go_ret
      exact ⟨-1, rfl, .inl rfl, HB3.out⟩
    obtain ⟨M3, hM3⟩ : ∃ M : Nat, M + lenD d.delta = M2 := ⟨M2 - lenD d.delta, by omega⟩
    obtain rfl : y3 = ((M3 : Nat) : Int) := by omega
    have HM3 : Hid (M3 + lenD d.delta = M2) := hM3
    have hML3 : M3 ≤ M2 := by omega
    have hz3 : ¬ ((M3 : Int) < 0) := by omega
    clear hM3 hy3 l3 T2 b3
    clear T3
    go_wp2
    go_ret
    exact ⟨M3, rfl, .inr ⟨by have e0 := HM0.out; have e1 := HM1.out; have e2 := HM2.out; have e3 := HM3.out; omega, by have e0 := HM0.out; have e1 := HM1.out; have e2 := HM2.out; have e3 := HM3.out; omega⟩, HB3.out⟩
set_option maxHeartbeats 4000000 in
theorem szRecS_is : SzS (layRec.slice 119) (szSl szRecD) 111 := fun v d hi L w h hhi hL => by
  obtain ⟨n, x⟩ := d
  obtain ⟨ao, cap, hv, hm, hc⟩ := h
  cases hv
  simp only at hm hc
  unfold maxLen at hm
  by_cases hnL : L < n
  · clear hc
    have hz : (L : Int) - (n : Int) < 0 := by omega
    go_enter Tryz.func111, Tryz.ntmps111
    go_wp2
    go_ret
    exact ⟨-1, rfl, .inl rfl, Below.refl _ _⟩
  · have hz : ¬ (L : Int) - (n : Int) < 0 := by omega
    go_enter Tryz.func111, Tryz.ntmps111
    go_wp2
    go_loopw [1, 5] (fun y i wr => ∃ k M : Nat, k ≤ n ∧ i = .int .i64 k ∧ y = .int .i64 M ∧ M + n + sumN (fun i => szRecD (x i)) k = L ∧ Below w.heap.size w wr) (fun _ i _ => n - (intOf i).toNat)
    case atStart => exact ⟨0, L - n, Nat.zero_le _, rfl, val_eq (by omega), by simp [sumN]; omega, Below.refl _ _⟩
    case round =>
      obtain ⟨k, M, hk, rfl, rfl, hM, hb⟩ := hrel
      have HM : Hid (M + n + sumN (fun i => szRecD (x i)) k = L) := hM
      have hML : M ≤ L := by omega
      clear hM
      by_cases hlt : k < n
      · obtain ⟨b, off, rfl, hblt, hel⟩ := hc (by omega)
        obtain ⟨ck, hrk, hcell⟩ := elem_rd (t := 0) hel hb hhi hblt hlt
        obtain ⟨ao6, cap6, ao7, cap7, ao8, cap8, rfl, -⟩ := Rec_rd hrk
        have c0 : wr.cell? ⟨b, off + k * 9, none⟩ = some (.int .i64 (x k).kind) := hcell 0 (by decide)
        have c1 : wr.cell? ⟨b, off + k * 9 + 1, none⟩ = some (.int .i64 (x k).seq) := hcell 1 (by decide)
        have c2 : wr.cell? ⟨b, off + k * 9 + 2, none⟩ = some (.string (x k).name) := hcell 2 (by decide)
        have c3 : wr.cell? ⟨b, off + k * 9 + 3, none⟩ = some (.int .i64 (x k).length) := hcell 3 (by decide)
        have c4 : wr.cell? ⟨b, off + k * 9 + 4, none⟩ = some (.int .i64 (x k).group) := hcell 4 (by decide)
        have c5 : wr.cell? ⟨b, off + k * 9 + 5, none⟩ = some (.int .i64 (x k).row) := hcell 5 (by decide)
        have c6 : wr.cell? ⟨b, off + k * 9 + 6, none⟩ = some (.slice ao6 (x k).rows.1 cap6) := hcell 6 (by decide)
        have c7 : wr.cell? ⟨b, off + k * 9 + 7, none⟩ = some (.slice ao7 (x k).data.1 cap7) := hcell 7 (by decide)
        have c8 : wr.cell? ⟨b, off + k * 9 + 8, none⟩ = some (.slice ao8 (x k).delta.1 cap8) := hcell 8 (by decide)
        clear hc hel hcell
        go_wp2_with fail
        refine (szRec_is _ (x k) hi M _ hrk (Nat.le_trans hhi hb.size) (by omega)).mono ?_
        rintro e w2 ⟨y, rfl, s, b2⟩
        have HB : Hid (Below w.heap.size w w2) := hb.trans (b2.mono hb.size)
        clear b2 hb hrk
        rcases s with rfl | ⟨l1, hy⟩
        · go_wp2
          go_ret
          exact ⟨-1, rfl, .inl rfl, HB.out⟩
        · obtain ⟨M', hM'⟩ : ∃ M' : Nat, M' + szRecD (x k) = M := ⟨M - szRecD (x k), by omega⟩
          obtain rfl : y = (M' : Int) := by omega
          have HM' : Hid (M' + szRecD (x k) = M) := hM'
          have hz2 : ¬ ((M' : Int) < 0) := by omega
          clear hM' hy l1
          go_wp2_with fail
          go_roundw
          case rel => exact ⟨k + 1, M', by omega, by go_num, rfl, by
                have e1 := HM.out
                have e2 := HM'.out
                have e3 : sumN (fun i => szRecD (x i)) (k + 1) = sumN (fun i => szRecD (x i)) k + szRecD (x k) := rfl
                omega, HB.out⟩
          case measure => simp [intOf]; omega
      · obtain rfl : k = n := by omega
        go_wp2
        go_ret
        exact ⟨M, rfl, .inr ⟨by
          have e1 := HM.out
          show k + sumN (fun i => szRecD (x i)) k ≤ L
          omega, by
          have e1 := HM.out
          show (M : Int) = (L : Int) - ((k + sumN (fun i => szRecD (x i)) k : Nat) : Int)
          omega⟩, hb⟩
set_option maxHeartbeats 4000000 in
theorem szTape_is : SzV layTape szTapeD 73 := fun cs d hi L w r hhi hL => by
  obtain ⟨ao1, cap1, rfl, r1⟩ := Tape_rd r
  clear r
  unfold szTapeD
  have R1 : Hid ((layRec.slice 119).rd w hi d.recs [.slice ao1 d.recs.1 cap1]) := r1
  clear r1
  go_enter Tryz.func73, Tryz.ntmps73
  go_wp2_with fail
  have T0 := one_new w #[.bool d.wiped, .slice ao1 d.recs.1 cap1] 101
  refine (szRecS_is _ d.recs hi L _ ((layRec.slice 119).rd_below R1.out T0.bel hhi) (Nat.le_trans hhi T0.bel.size) (by omega)).mono ?_
  rintro e w1 ⟨y1, rfl, s1, b1⟩
  have T1 : One w w1 #[.bool d.wiped, .slice ao1 d.recs.1 cap1] 101 := T0.call b1
  have HB1 : Hid (Below w.heap.size w w1) := T1.bel
  rcases s1 with rfl | ⟨l1, hy1⟩
  · clear T1 T0 b1
    go_wp2
    go_ret
    exact ⟨-1, rfl, .inl rfl, HB1.out⟩
  obtain ⟨M1, hM1⟩ : ∃ M : Nat, M + (szSl szRecD) d.recs = L := ⟨L - (szSl szRecD) d.recs, by omega⟩
  obtain rfl : y1 = ((M1 : Nat) : Int) := by omega
  have HM1 : Hid (M1 + (szSl szRecD) d.recs = L) := hM1
  have hML1 : M1 ≤ L := by omega
  have hz1 : ¬ ((M1 : Int) < 0) := by omega
  clear hM1 hy1 l1 T0 b1
  clear T1
  go_wp2
  go_ret
  exact ⟨M1, rfl, .inr ⟨by have e0 := HM1.out; omega, by have e0 := HM1.out; omega⟩, HB1.out⟩
set_option maxHeartbeats 4000000 in
theorem szTapeS_is : SzS (layTape.slice 94) (szSl szTapeD) 33 := fun v d hi L w h hhi hL => by
  obtain ⟨n, x⟩ := d
  obtain ⟨ao, cap, hv, hm, hc⟩ := h
  cases hv
  simp only at hm hc
  unfold maxLen at hm
  by_cases hnL : L < n
  · clear hc
    have hz : (L : Int) - (n : Int) < 0 := by omega
    go_enter Tryz.func33, Tryz.ntmps33
    go_wp2
    go_ret
    exact ⟨-1, rfl, .inl rfl, Below.refl _ _⟩
  · have hz : ¬ (L : Int) - (n : Int) < 0 := by omega
    go_enter Tryz.func33, Tryz.ntmps33
    go_wp2
    go_loopw [1, 5] (fun y i wr => ∃ k M : Nat, k ≤ n ∧ i = .int .i64 k ∧ y = .int .i64 M ∧ M + n + sumN (fun i => szTapeD (x i)) k = L ∧ Below w.heap.size w wr) (fun _ i _ => n - (intOf i).toNat)
    case atStart => exact ⟨0, L - n, Nat.zero_le _, rfl, val_eq (by omega), by simp [sumN]; omega, Below.refl _ _⟩
    case round =>
      obtain ⟨k, M, hk, rfl, rfl, hM, hb⟩ := hrel
      have HM : Hid (M + n + sumN (fun i => szTapeD (x i)) k = L) := hM
      have hML : M ≤ L := by omega
      clear hM
      by_cases hlt : k < n
      · obtain ⟨b, off, rfl, hblt, hel⟩ := hc (by omega)
        obtain ⟨ck, hrk, hcell⟩ := elem_rd (t := 0) hel hb hhi hblt hlt
        obtain ⟨ao1, cap1, rfl, -⟩ := Tape_rd hrk
        have c0 : wr.cell? ⟨b, off + k * 2, none⟩ = some (.bool (x k).wiped) := hcell 0 (by decide)
        have c1 : wr.cell? ⟨b, off + k * 2 + 1, none⟩ = some (.slice ao1 (x k).recs.1 cap1) := hcell 1 (by decide)
        clear hc hel hcell
        go_wp2_with fail
        refine (szTape_is _ (x k) hi M _ hrk (Nat.le_trans hhi hb.size) (by omega)).mono ?_
        rintro e w2 ⟨y, rfl, s, b2⟩
        have HB : Hid (Below w.heap.size w w2) := hb.trans (b2.mono hb.size)
        clear b2 hb hrk
        rcases s with rfl | ⟨l1, hy⟩
        · go_wp2
          go_ret
          exact ⟨-1, rfl, .inl rfl, HB.out⟩
        · obtain ⟨M', hM'⟩ : ∃ M' : Nat, M' + szTapeD (x k) = M := ⟨M - szTapeD (x k), by omega⟩
          obtain rfl : y = (M' : Int) := by omega
          have HM' : Hid (M' + szTapeD (x k) = M) := hM'
          have hz2 : ¬ ((M' : Int) < 0) := by omega
          clear hM' hy l1
          go_wp2_with fail
          go_roundw
          case rel => exact ⟨k + 1, M', by omega, by go_num, rfl, by
                have e1 := HM.out
                have e2 := HM'.out
                have e3 : sumN (fun i => szTapeD (x i)) (k + 1) = sumN (fun i => szTapeD (x i)) k + szTapeD (x k) := rfl
                omega, HB.out⟩
          case measure => simp [intOf]; omega
      · obtain rfl : k = n := by omega
        go_wp2
        go_ret
        exact ⟨M, rfl, .inr ⟨by
          have e1 := HM.out
          show k + sumN (fun i => szTapeD (x i)) k ≤ L
          omega, by
          have e1 := HM.out
          show (M : Int) = (L : Int) - ((k + sumN (fun i => szTapeD (x i)) k : Nat) : Int)
          omega⟩, hb⟩
end Go.Proofs.YtbmfndjglndnlaaGreat

namespace Go.Proofs.YtbmfndjglndnlaaGreat
open Go.RowKit F256
set_option linter.unusedVariables false
set_option linter.unusedSimpArgs false
set_option maxHeartbeats 4000000 in
theorem szWorld_is : SzV layWorld szWorldD 9 := fun cs d hi L w r hhi hL => by
  obtain ⟨ao1, cap1, ao2, cap2, ao3, cap3, rfl, r1, r2, r3, k0, k4, k5⟩ := World_rd r
  clear r
  unfold szWorldD
  have R1 : Hid (((layDrive.slice 84).slice 85).rd w hi d.groups [.slice ao1 d.groups.1 cap1]) := r1
  have R2 : Hid (layInts.rd w hi d.on [.slice ao2 d.on.1 cap2]) := r2
  have R3 : Hid ((layTape.slice 94).rd w hi d.tapes [.slice ao3 d.tapes.1 cap3]) := r3
  clear r1 r2 r3
  go_enter Tryz.func9, Tryz.ntmps9
  go_wp2_with fail
  have T0 := one_new w #[.int .i64 (d.shape 0), .int .i64 (d.shape 1), .int .i64 (d.shape 2), .int .i64 (d.shape 3), .int .i64 (d.shape 4), .int .i64 (d.shape 5), .int .i64 (d.shape 6), .int .i64 (d.shape 7), .int .i64 (d.shape 8), .slice ao1 d.groups.1 cap1, .slice ao2 d.on.1 cap2, .slice ao3 d.tapes.1 cap3, .int .i64 d.writes, .int .i64 d.stop, .bool d.down] 28
  refine (szDriveSS_is _ d.groups hi L _ (((layDrive.slice 84).slice 85).rd_below R1.out T0.bel hhi) (Nat.le_trans hhi T0.bel.size) (by omega)).mono ?_
  rintro e w1 ⟨y1, rfl, s1, b1⟩
  have T1 : One w w1 #[.int .i64 (d.shape 0), .int .i64 (d.shape 1), .int .i64 (d.shape 2), .int .i64 (d.shape 3), .int .i64 (d.shape 4), .int .i64 (d.shape 5), .int .i64 (d.shape 6), .int .i64 (d.shape 7), .int .i64 (d.shape 8), .slice ao1 d.groups.1 cap1, .slice ao2 d.on.1 cap2, .slice ao3 d.tapes.1 cap3, .int .i64 d.writes, .int .i64 d.stop, .bool d.down] 28 := T0.call b1
  have x1_10 : w1.cell? ⟨w.heap.size, 10, none⟩ = some (.slice ao2 d.on.1 cap2) := T1.b1.cell 10
  have HB1 : Hid (Below w.heap.size w w1) := T1.bel
  rcases s1 with rfl | ⟨l1, hy1⟩
  · clear T1 T0 b1
    go_wp2
    go_ret
    exact ⟨-1, rfl, .inl rfl, HB1.out⟩
  obtain ⟨M1, hM1⟩ : ∃ M : Nat, M + (szSl (szSl szDriveD)) d.groups = L := ⟨L - (szSl (szSl szDriveD)) d.groups, by omega⟩
  obtain rfl : y1 = ((M1 : Nat) : Int) := by omega
  have HM1 : Hid (M1 + (szSl (szSl szDriveD)) d.groups = L) := hM1
  have hML1 : M1 ≤ L := by omega
  have hz1 : ¬ ((M1 : Int) < 0) := by omega
  clear hM1 hy1 l1 T0 b1
  go_wp2_with fail
  refine (szInts_is _ d.on hi M1 _ (layInts.rd_below R2.out T1.bel hhi) (Nat.le_trans hhi T1.bel.size) (by omega)).mono ?_
  rintro e w2 ⟨y2, rfl, s2, b2⟩
  have T2 : One w w2 #[.int .i64 (d.shape 0), .int .i64 (d.shape 1), .int .i64 (d.shape 2), .int .i64 (d.shape 3), .int .i64 (d.shape 4), .int .i64 (d.shape 5), .int .i64 (d.shape 6), .int .i64 (d.shape 7), .int .i64 (d.shape 8), .slice ao1 d.groups.1 cap1, .slice ao2 d.on.1 cap2, .slice ao3 d.tapes.1 cap3, .int .i64 d.writes, .int .i64 d.stop, .bool d.down] 28 := T1.call b2
  have x2_11 : w2.cell? ⟨w.heap.size, 11, none⟩ = some (.slice ao3 d.tapes.1 cap3) := T2.b1.cell 11
  have HB2 : Hid (Below w.heap.size w w2) := T2.bel
  rcases s2 with rfl | ⟨l2, hy2⟩
  · clear T2 T1 b2
    go_wp2
    go_ret
    exact ⟨-1, rfl, .inl rfl, HB2.out⟩
  obtain ⟨M2, hM2⟩ : ∃ M : Nat, M + lenD d.on = M1 := ⟨M1 - lenD d.on, by omega⟩
  obtain rfl : y2 = ((M2 : Nat) : Int) := by omega
  have HM2 : Hid (M2 + lenD d.on = M1) := hM2
  have hML2 : M2 ≤ M1 := by omega
  have hz2 : ¬ ((M2 : Int) < 0) := by omega
  clear hM2 hy2 l2 T1 b2
  go_wp2_with fail
  refine (szTapeS_is _ d.tapes hi M2 _ ((layTape.slice 94).rd_below R3.out T2.bel hhi) (Nat.le_trans hhi T2.bel.size) (by omega)).mono ?_
  rintro e w3 ⟨y3, rfl, s3, b3⟩
  have T3 : One w w3 #[.int .i64 (d.shape 0), .int .i64 (d.shape 1), .int .i64 (d.shape 2), .int .i64 (d.shape 3), .int .i64 (d.shape 4), .int .i64 (d.shape 5), .int .i64 (d.shape 6), .int .i64 (d.shape 7), .int .i64 (d.shape 8), .slice ao1 d.groups.1 cap1, .slice ao2 d.on.1 cap2, .slice ao3 d.tapes.1 cap3, .int .i64 d.writes, .int .i64 d.stop, .bool d.down] 28 := T2.call b3
  have HB3 : Hid (Below w.heap.size w w3) := T3.bel
  rcases s3 with rfl | ⟨l3, hy3⟩
  · clear T3 T2 b3
    go_wp2
    go_ret
    exact ⟨-1, rfl, .inl rfl, HB3.out⟩
  obtain ⟨M3, hM3⟩ : ∃ M : Nat, M + (szSl szTapeD) d.tapes = M2 := ⟨M2 - (szSl szTapeD) d.tapes, by omega⟩
  obtain rfl : y3 = ((M3 : Nat) : Int) := by omega
  have HM3 : Hid (M3 + (szSl szTapeD) d.tapes = M2) := hM3
  have hML3 : M3 ≤ M2 := by omega
  have hz3 : ¬ ((M3 : Int) < 0) := by omega
  clear hM3 hy3 l3 T2 b3
  clear T3
  go_wp2
  go_ret
  exact ⟨M3, rfl, .inr ⟨by have e0 := HM1.out; have e1 := HM2.out; have e2 := HM3.out; omega, by have e0 := HM1.out; have e1 := HM2.out; have e2 := HM3.out; omega⟩, HB3.out⟩
end Go.Proofs.YtbmfndjglndnlaaGreat
