/- For every world and all three numbers the program's ReadBlock answers as the specification's does, writes into nothing that it is handed, and its answer is memory of its own: the law FnExactReadBlock returns true at every input, and changes nothing that was there. No condition. -/
import Derived.Test.YtlppdepihchnkaaGreatZFnExactReadBlockJ
import Derived.Deep.DeepCutAuto
import Derived.Test.YtlppdepihchnkaaGreatRows
import Derived.Test.YtlppdepihchnkaaGreatOpensW
import Derived.Test.YtlppdepihchnkaaGreatZFnExactReadBlockB
import Derived.Test.YtlppdepihchnkaaGreatZFnExactReadBlockC
import Derived.Test.YtlppdepihchnkaaGreatZFnExactReadBlockD
import Derived.Test.YtlppdepihchnkaaGreatZFnExactReadBlockE
import Derived.Test.YtlppdepihchnkaaGreatZFnExactReadBlockF
import Derived.Deep.RegionLaw
namespace Go.Proofs.YtlppdepihchnkaaGreat
open Go.RowKit F256
set_option linter.unusedVariables false
set_option linter.unusedSimpArgs false
set_option maxHeartbeats 8000000 in
set_option maxRecDepth 20000 in
theorem copyBlock_is : ToV layBlock szBlockD 85 := fun cs d hi w r hhi hn => by
  obtain ⟨ao1, cap1, rfl, h1, k0⟩ := Block_rd r
  clear r
  unfold szBlockD at hn
  have R1 : Hid (layBytes.rd w hi d.bytes [.slice ao1 d.bytes.1 cap1]) := h1
  clear h1
  have Q0 : Hid (-9223372036854775808 ≤ d.stamp ∧ d.stamp ≤ 9223372036854775807) := k0
  clear k0
  have T0 := two_newb w #[.int .i64 d.stamp, .slice ao1 d.bytes.1 cap1] #[.int .i64 0, .slice none 0 0] 39 39
  go_enter Tryz.func85, Tryz.ntmps85
  go_wp2_with fail
  refine (copyBytes_is _ d.bytes hi _ (layBytes.rd_below R1.out T0.bel hhi) (Nat.le_trans hhi T0.bel.size) (by omega)).mono ?_
  rintro e w1 ⟨v0, rfl, o0, b0⟩
  obtain ⟨bo1, bcap1, hv⟩ := bytes_formT o0
  obtain rfl := one_eq hv
  clear hv
  have T0c := T0.call b0
  have z0 := T0.b2.lt
  have y0 := b0.size
  have c0_1 : w1.cell? ⟨w.heap.size, 1, none⟩ = some (.slice ao1 d.bytes.1 cap1) := T0c.b1.cell 1
  have c0f_1 : w1.frozen? ⟨w.heap.size, 1, none⟩ = false := T0c.b1.frozen 1
  have T1x : Two w (w1.setCell ⟨w.heap.size, 1, none⟩ (.slice bo1 d.bytes.1 bcap1)) #[.int .i64 d.stamp, .slice bo1 d.bytes.1 bcap1] #[.int .i64 0, .slice none 0 0] 39 39 := ⟨T0c.b1.stL [.slice bo1 d.bytes.1 bcap1] 1, T0c.b2.seto _ _ (by omega), T0c.bel.setCell (Nat.le_refl _) _⟩
  have O1_0 := (o0.stN w.heap.size 1 [.slice bo1 d.bytes.1 bcap1] (by omega))
  have e1 : (w1.setCell ⟨w.heap.size, 1, none⟩ (.slice bo1 d.bytes.1 bcap1)).heap.size = w1.heap.size := by simp
  clear o0 b0 
  go_upto_region 2 with fail
  obtain ⟨W1, hW1⟩ : ∃ x, x = w1.setCell ⟨w.heap.size, 1, none⟩ (.slice bo1 d.bytes.1 bcap1) := ⟨_, rfl⟩
  have O1 : Hid (OwnT layBytes W1 (w.heap.size + 1 + 1) (w1.heap.size) d.bytes [.slice bo1 d.bytes.1 bcap1]) := by rw [hW1]; exact OwnT.weaken O1_0 (by simp) (Nat.le_refl _)
  rw [← hW1] at T1x e1 ⊢
  clear hW1 O1_0 T0c c0_1 c0f_1
  have y_0 : W1.cell? ⟨w.heap.size, 0, none⟩ = some (.int .i64 d.stamp) := T1x.b1.cell 0
  have y_1 : W1.cell? ⟨w.heap.size, 1, none⟩ = some (.slice bo1 d.bytes.1 bcap1) := T1x.b1.cell 1
  have r_0 : W1.cell? ⟨w.heap.size + 1, 0, none⟩ = some (.int .i64 0) := T1x.b2.cell 0
  have rf_0 : W1.frozen? ⟨w.heap.size + 1, 0, none⟩ = false := T1x.b2.frozen 0
  have r_1 : W1.cell? ⟨w.heap.size + 1, 1, none⟩ = some (.slice none 0 0) := T1x.b2.cell 1
  have rf_1 : W1.frozen? ⟨w.heap.size + 1, 1, none⟩ = false := T1x.b2.frozen 1
  have HB : Hid (Below w.heap.size w W1) := T1x.bel
  have zz := T1x.b2.lt
  clear T1x
  go_wp2
  refine bodyPost_ret (v := .agg #[.int .i64 d.stamp, .slice bo1 d.bytes.1 bcap1]) (by simp [results, Tryz.results85, go_sem, r_0, y_0, r_1, y_1]) rfl ?_
  have F : OwnT layBlock W1 (w.heap.size + 1 + 1) w1.heap.size d ([.int .i64 d.stamp] ++ [.slice bo1 d.bytes.1 bcap1]) := OwnT.conv (OwnT.pre (A := layI) (a := d.stamp) (c := [.int .i64 d.stamp]) ⟨rfl, Q0.out, rfl⟩ O1.out)
  refine ⟨[.int .i64 d.stamp, .slice bo1 d.bytes.1 bcap1], rfl, ?_, ?_⟩
  · exact OwnT.finb (F.weaken (Nat.le_refl _) (by omega)) (b := w.heap.size + 1) (by omega) (by omega) 0 [.int .i64 d.stamp, .slice bo1 d.bytes.1 bcap1] _ rfl
  · exact HB.out.trans (stN_below (by omega) [.int .i64 d.stamp, .slice bo1 d.bytes.1 bcap1] 0)
set_option maxHeartbeats 8000000 in
set_option maxRecDepth 20000 in
theorem copyBlockS_is : ToF (layBlock.slice 39) (szSl szBlockD) 223 85 := fun v d hi w h hhi hn => by
  obtain ⟨n, x⟩ := d
  obtain ⟨ao, cap, hv, hm, hc⟩ := h
  cases hv
  have hn1 := szSl_n hn
  have hn2 : ∀ i, i < n → szBlockD (x i) ≤ 1048576 := fun i hi => szSl_at hn hi
  simp only at hn1 hm hc
  clear hn
  go_enter Tryz.func223, Tryz.ntmps223
  go_wp2_with (at_make; refine wp_makeT layBlock [.int .i64 0, .slice none 0 0] _ 39 32 (el_Block).hs rfl Tryz.underlying46 (el_Block).hi x (fun _ => []) _ rfl _ _ rfl _ _ n rfl rfl rfl rfl (by omega) (by omega) ?_; intro w1 sp1 hb1)
  go_loopw [12] (fun i wr => ∃ k : Nat, k ≤ n ∧ i = .int .i64 k ∧ ∃ ce Ls, SlP layBlock 39 wr w.heap.size w.heap.size n n k x ce Ls ∧ Below w.heap.size w wr) (fun i _ => n - (intOf i).toNat)
  case atStart => exact ⟨0, Nat.zero_le _, rfl, _, _, sp1, hb1⟩
  case round =>
    clear sp1 hb1
    obtain ⟨k, hk, rfl, ce, Ls, sp, hb⟩ := hrel
    by_cases hlt : k < n
    · obtain ⟨b, off, rfl, hblt, hel⟩ := hc (by omega)
      obtain ⟨ck, hrk, hcell⟩ := elem_rd (t := 0) hel hb hhi hblt hlt
      obtain ⟨ao1, cap1, rfl, -⟩ := Block_rd hrk
      have c0 : wr.cell? ⟨b, off + k * 2, none⟩ = some (.int .i64 (x k).stamp) := hcell 0 (by decide)
      have c1 : wr.cell? ⟨b, off + k * 2 + 1, none⟩ = some (.slice ao1 (x k).bytes.1 cap1) := hcell 1 (by decide)
      clear hc hel hcell
      go_wp2_with fail
      refine (copyBlock_is _ (x k) hi wr hrk (Nat.le_trans hhi hb.size) (hn2 k hlt)).mono ?_
      rintro e w2 ⟨cs', rfl, o2, hb2⟩
      obtain ⟨bao1, bcap1, rfl⟩ := Block_cells o2
      obtain ⟨z0, s0⟩ := sp.some hb2 hlt (show 0 < layBlock.sz by decide)
      have s0 : w2.cell? ⟨w.heap.size, k * 2, none⟩ = some z0 := s0
      have sf0 := (sp.below hb2).frozen (k * 2)
      obtain ⟨z1, s1⟩ := sp.some hb2 hlt (show 1 < layBlock.sz by decide)
      have s1 : w2.cell? ⟨w.heap.size, k * 2 + 1, none⟩ = some z1 := s1
      have sf1 := (sp.below hb2).frozen (k * 2 + 1)
      have N := sp.next hb2 hlt o2 hb.size
      have N2 : Below w.heap.size w (stN w2 w.heap.size (k * layBlock.sz) [.int .i64 (x k).stamp, .slice bao1 (x k).bytes.1 bcap1]) := (hb.trans (hb2.mono hb.size)).trans (stN_below (Nat.le_refl _) _ _)
      clear o2 hb2 sp hb
      go_wp2_with fail
      go_roundw
      case rel =>
        obtain ⟨ce', Ls', N⟩ := N
        exact ⟨k + 1, by omega, by go_num, ce', Ls', N, N2⟩
      case measure => simp [intOf]; omega
    · obtain rfl : k = n := by omega
      go_wp2
      go_ret
      exact ⟨_, rfl, sp.done (Nat.le_refl _), hb⟩
set_option maxHeartbeats 8000000 in
set_option maxRecDepth 20000 in
theorem copyDrive_is : ToV layDrive szDriveD 196 := fun cs d hi w r hhi hn => by
  obtain ⟨ao1, cap1, rfl, h1⟩ := Drive_rd r
  clear r
  unfold szDriveD at hn
  have R1 : Hid ((layBlock.slice 39).rd w hi d.blocks [.slice ao1 d.blocks.1 cap1]) := h1
  clear h1
  have T0 := two_newb w #[.bool d.wiped, .slice ao1 d.blocks.1 cap1] #[.bool false, .slice none 0 0] 48 48
  go_enter Tryz.func196, Tryz.ntmps196
  go_wp2_with fail
  refine (copyBlockS_is _ d.blocks hi _ ((layBlock.slice 39).rd_below R1.out T0.bel hhi) (Nat.le_trans hhi T0.bel.size) (by omega)).mono ?_
  rintro e w1 ⟨v0, rfl, o0, b0⟩
  obtain ⟨bo1, bcap1, hv⟩ := sl_formT o0
  obtain rfl := one_eq hv
  clear hv
  have T0c := T0.call b0
  have z0 := T0.b2.lt
  have y0 := b0.size
  have c0_1 : w1.cell? ⟨w.heap.size, 1, none⟩ = some (.slice ao1 d.blocks.1 cap1) := T0c.b1.cell 1
  have c0f_1 : w1.frozen? ⟨w.heap.size, 1, none⟩ = false := T0c.b1.frozen 1
  have T1x : Two w (w1.setCell ⟨w.heap.size, 1, none⟩ (.slice bo1 d.blocks.1 bcap1)) #[.bool d.wiped, .slice bo1 d.blocks.1 bcap1] #[.bool false, .slice none 0 0] 48 48 := ⟨T0c.b1.stL [.slice bo1 d.blocks.1 bcap1] 1, T0c.b2.seto _ _ (by omega), T0c.bel.setCell (Nat.le_refl _) _⟩
  have O1_0 := (o0.stN w.heap.size 1 [.slice bo1 d.blocks.1 bcap1] (by omega))
  have e1 : (w1.setCell ⟨w.heap.size, 1, none⟩ (.slice bo1 d.blocks.1 bcap1)).heap.size = w1.heap.size := by simp
  clear o0 b0 
  go_upto_region 2 with fail
  obtain ⟨W1, hW1⟩ : ∃ x, x = w1.setCell ⟨w.heap.size, 1, none⟩ (.slice bo1 d.blocks.1 bcap1) := ⟨_, rfl⟩
  have O1 : Hid (OwnT (layBlock.slice 39) W1 (w.heap.size + 1 + 1) (w1.heap.size) d.blocks [.slice bo1 d.blocks.1 bcap1]) := by rw [hW1]; exact OwnT.weaken O1_0 (by simp) (Nat.le_refl _)
  rw [← hW1] at T1x e1 ⊢
  clear hW1 O1_0 T0c c0_1 c0f_1
  have y_0 : W1.cell? ⟨w.heap.size, 0, none⟩ = some (.bool d.wiped) := T1x.b1.cell 0
  have y_1 : W1.cell? ⟨w.heap.size, 1, none⟩ = some (.slice bo1 d.blocks.1 bcap1) := T1x.b1.cell 1
  have r_0 : W1.cell? ⟨w.heap.size + 1, 0, none⟩ = some (.bool false) := T1x.b2.cell 0
  have rf_0 : W1.frozen? ⟨w.heap.size + 1, 0, none⟩ = false := T1x.b2.frozen 0
  have r_1 : W1.cell? ⟨w.heap.size + 1, 1, none⟩ = some (.slice none 0 0) := T1x.b2.cell 1
  have rf_1 : W1.frozen? ⟨w.heap.size + 1, 1, none⟩ = false := T1x.b2.frozen 1
  have HB : Hid (Below w.heap.size w W1) := T1x.bel
  have zz := T1x.b2.lt
  clear T1x
  go_wp2
  refine bodyPost_ret (v := .agg #[.bool d.wiped, .slice bo1 d.blocks.1 bcap1]) (by simp [results, Tryz.results196, go_sem, r_0, y_0, r_1, y_1]) rfl ?_
  have F : OwnT layDrive W1 (w.heap.size + 1 + 1) w1.heap.size d ([.bool d.wiped] ++ [.slice bo1 d.blocks.1 bcap1]) := OwnT.conv (OwnT.pre (A := layB) (a := d.wiped) (c := [.bool d.wiped]) ⟨rfl, trivial, rfl⟩ O1.out)
  refine ⟨[.bool d.wiped, .slice bo1 d.blocks.1 bcap1], rfl, ?_, ?_⟩
  · exact OwnT.finb (F.weaken (Nat.le_refl _) (by omega)) (b := w.heap.size + 1) (by omega) (by omega) 0 [.bool d.wiped, .slice bo1 d.blocks.1 bcap1] _ rfl
  · exact HB.out.trans (stN_below (by omega) [.bool d.wiped, .slice bo1 d.blocks.1 bcap1] 0)
set_option maxHeartbeats 8000000 in
set_option maxRecDepth 20000 in
theorem copyDriveS_is : ToF (layDrive.slice 48) (szSl szDriveD) 195 196 := fun v d hi w h hhi hn => by
  obtain ⟨n, x⟩ := d
  obtain ⟨ao, cap, hv, hm, hc⟩ := h
  cases hv
  have hn1 := szSl_n hn
  have hn2 : ∀ i, i < n → szDriveD (x i) ≤ 1048576 := fun i hi => szSl_at hn hi
  simp only at hn1 hm hc
  clear hn
  go_enter Tryz.func195, Tryz.ntmps195
  go_wp2_with (at_make; refine wp_makeT layDrive [.bool false, .slice none 0 0] _ 48 32 (el_Drive).hs rfl Tryz.underlying49 (el_Drive).hi x (fun _ => []) _ rfl _ _ rfl _ _ n rfl rfl rfl rfl (by omega) (by omega) ?_; intro w1 sp1 hb1)
  go_loopw [12] (fun i wr => ∃ k : Nat, k ≤ n ∧ i = .int .i64 k ∧ ∃ ce Ls, SlP layDrive 48 wr w.heap.size w.heap.size n n k x ce Ls ∧ Below w.heap.size w wr) (fun i _ => n - (intOf i).toNat)
  case atStart => exact ⟨0, Nat.zero_le _, rfl, _, _, sp1, hb1⟩
  case round =>
    clear sp1 hb1
    obtain ⟨k, hk, rfl, ce, Ls, sp, hb⟩ := hrel
    by_cases hlt : k < n
    · obtain ⟨b, off, rfl, hblt, hel⟩ := hc (by omega)
      obtain ⟨ck, hrk, hcell⟩ := elem_rd (t := 0) hel hb hhi hblt hlt
      obtain ⟨ao1, cap1, rfl, -⟩ := Drive_rd hrk
      have c0 : wr.cell? ⟨b, off + k * 2, none⟩ = some (.bool (x k).wiped) := hcell 0 (by decide)
      have c1 : wr.cell? ⟨b, off + k * 2 + 1, none⟩ = some (.slice ao1 (x k).blocks.1 cap1) := hcell 1 (by decide)
      clear hc hel hcell
      go_wp2_with fail
      refine (copyDrive_is _ (x k) hi wr hrk (Nat.le_trans hhi hb.size) (hn2 k hlt)).mono ?_
      rintro e w2 ⟨cs', rfl, o2, hb2⟩
      obtain ⟨bao1, bcap1, rfl⟩ := Drive_cells o2
      obtain ⟨z0, s0⟩ := sp.some hb2 hlt (show 0 < layDrive.sz by decide)
      have s0 : w2.cell? ⟨w.heap.size, k * 2, none⟩ = some z0 := s0
      have sf0 := (sp.below hb2).frozen (k * 2)
      obtain ⟨z1, s1⟩ := sp.some hb2 hlt (show 1 < layDrive.sz by decide)
      have s1 : w2.cell? ⟨w.heap.size, k * 2 + 1, none⟩ = some z1 := s1
      have sf1 := (sp.below hb2).frozen (k * 2 + 1)
      have N := sp.next hb2 hlt o2 hb.size
      have N2 : Below w.heap.size w (stN w2 w.heap.size (k * layDrive.sz) [.bool (x k).wiped, .slice bao1 (x k).blocks.1 bcap1]) := (hb.trans (hb2.mono hb.size)).trans (stN_below (Nat.le_refl _) _ _)
      clear o2 hb2 sp hb
      go_wp2_with fail
      go_roundw
      case rel =>
        obtain ⟨ce', Ls', N⟩ := N
        exact ⟨k + 1, by omega, by go_num, ce', Ls', N, N2⟩
      case measure => simp [intOf]; omega
    · obtain rfl : k = n := by omega
      go_wp2
      go_ret
      exact ⟨_, rfl, sp.done (Nat.le_refl _), hb⟩
set_option maxHeartbeats 4000000 in
theorem copyGroup_is : ToS (layDrive.slice 48) (szSl szDriveD) 141 := fun v d hi w h hhi hn => by
  have C := copyDriveS_is v d hi w h hhi hn
  obtain ⟨ao, cap, hv, hm, hc⟩ := h
  cases hv
  clear hm hc
  go_enter Tryz.func141, Tryz.ntmps141
  go_wp2_with fail
  refine C.mono ?_
  rintro e w1 ⟨v1, rfl, o1, b1⟩
  have HO : Hid (OwnT (layDrive.slice 48) w1 w.heap.size w1.heap.size d [v1]) := o1
  have HB : Hid (Below w.heap.size w w1) := b1
  clear o1 b1 C
  go_wp2
  go_ret
  exact ⟨v1, rfl, HO.out, HB.out⟩
set_option maxHeartbeats 4000000 in
theorem copyDriveSS_is : ToF ((layDrive.slice 48).slice 49) (szSl (szSl szDriveD)) 140 141 := fun v d hi w h hhi hn => by
  obtain ⟨n, x⟩ := d
  obtain ⟨ao, cap, hv, hm, hc⟩ := h
  cases hv
  have hn1 := szSl_n hn
  have hn2 : ∀ i, i < n → szSl szDriveD (x i) ≤ 1048576 := fun i hi => szSl_at hn hi
  simp only at hn1 hm hc
  clear hn
  go_enter Tryz.func140, Tryz.ntmps140
  go_wp2_with (at_make; refine wp_makeT (layDrive.slice 48) [.slice none 0 0] _ 49 24 el_DriveS.hs rfl Tryz.underlying26 el_DriveS.hi x (fun _ => []) _ rfl _ _ rfl _ _ n rfl rfl rfl rfl (by omega) (by omega) ?_; intro w1 sp1 hb1)
  go_loopw [12] (fun i wr => ∃ k : Nat, k ≤ n ∧ i = .int .i64 k ∧ ∃ ce Ls, SlP (layDrive.slice 48) 49 wr w.heap.size w.heap.size n n k x ce Ls ∧ Below w.heap.size w wr) (fun i _ => n - (intOf i).toNat)
  case atStart => exact ⟨0, Nat.zero_le _, rfl, _, _, sp1, hb1⟩
  case round =>
    clear sp1 hb1
    obtain ⟨k, hk, rfl, ce, Ls, sp, hb⟩ := hrel
    by_cases hlt : k < n
    · obtain ⟨b, off, rfl, hblt, hel⟩ := hc (by omega)
      obtain ⟨ck, hrk, hcell⟩ := elem_rd (t := 0) hel hb hhi hblt hlt
      obtain ⟨ao1, cap1, rfl⟩ := sl_form hrk
      have c0 : wr.cell? ⟨b, off + k, none⟩ = some (.slice ao1 (x k).1 cap1) := by
        have := hcell 0 (by decide)
        have e : off + (k * (layDrive.slice 48).sz + 0) = off + k := by show off + (k * 1 + 0) = off + k; omega
        rw [e] at this
        exact this
      clear hc hel hcell
      go_wp2_with fail
      refine (copyGroup_is _ (x k) hi wr hrk (Nat.le_trans hhi hb.size) (hn2 k hlt)).mono ?_
      rintro e w2 ⟨v2, rfl, o2, hb2⟩
      obtain ⟨bao1, bcap1, hv2⟩ := sl_formT o2
      obtain rfl := one_eq hv2
      obtain ⟨z0, s0⟩ := sp.some hb2 hlt (show 0 < (layDrive.slice 48).sz by decide)
      have e0 : k * (layDrive.slice 48).sz + 0 = k := by show k * 1 + 0 = k; omega
      rw [e0] at s0
      have sf0 := (sp.below hb2).frozen k
      have N := sp.next hb2 hlt o2 hb.size
      have e1 : k * (layDrive.slice 48).sz = k := by show k * 1 = k; omega
      rw [e1] at N
      have N2 : Below w.heap.size w (stN w2 w.heap.size k [.slice bao1 (x k).1 bcap1]) := (hb.trans (hb2.mono hb.size)).trans (stN_below (Nat.le_refl _) _ _)
      clear o2 hb2 sp hb hv2
      go_wp2_with fail
      go_roundw
      case rel =>
        obtain ⟨ce', Ls', N⟩ := N
        exact ⟨k + 1, by omega, by go_num, ce', Ls', N, N2⟩
      case measure => simp [intOf]; omega
    · obtain rfl : k = n := by omega
      go_wp2
      go_ret
      exact ⟨_, rfl, sp.done (Nat.le_refl _), hb⟩
end Go.Proofs.YtlppdepihchnkaaGreat

namespace Go.Proofs.YtlppdepihchnkaaGreat
open Go.RowKit F256
set_option linter.unusedVariables false
set_option linter.unusedSimpArgs false
set_option maxHeartbeats 16000000 in
set_option maxRecDepth 20000 in
theorem specRead_any (d : WorldD) (g k r : Int) (cs : List Value) (hi : Nat) (w : World) (h : layWorld.rd w hi d cs) (hhi : hi ≤ w.heap.size) (hsz : szWorldD d ≤ 1048576) :
    Calls Tryz.prog 37 #[.agg cs.toArray, .int .i64 g, .int .i64 k, .int .i64 r] w (BResPost (ReadAns d g k r) w) := by
  have CQ := fun w' hb => l5Asked_any d cs hi w' (layWorld.rd_below h (B := w.heap.size) hb hhi)
  obtain ⟨ao1, cap1, ao2, cap2, ao3, cap3, rfl, g1, g2, g3, -⟩ := World_rd h
  obtain ⟨_, e2, ⟨h2, _⟩, _⟩ := g2
  cases e2
  obtain ⟨_, _, e1, hm1, hc1⟩ := g1
  cases e1
  have HC1 : Hid (d.groups.1 ≠ 0 → ∃ b off, ao1 = some ⟨b, off, none⟩ ∧ b < hi ∧ ∀ i, i < d.groups.1 → ∃ ce, (layDrive.slice 48).rd w hi (d.groups.2 i) ce ∧ ∀ j, j < (layDrive.slice 48).sz → w.cell? ⟨b, off + (i * (layDrive.slice 48).sz + j), none⟩ = ce[j]?) := hc1
  have HR2 : Hid (RdI w hi (.slice ao2 d.on.1 cap2) d.on.1 d.on.2) := h2
  have HSZ : Hid (szWorldD d ≤ 1048576) := hsz
  have T0 := two_newb w #[.int .i64 (d.shape 0), .int .i64 (d.shape 1), .int .i64 (d.shape 2), .int .i64 (d.shape 3), .int .i64 (d.shape 4), .int .i64 (d.shape 5), .int .i64 (d.shape 6), .int .i64 (d.shape 7), .int .i64 (d.shape 8), .slice ao1 d.groups.1 cap1, .slice ao2 d.on.1 cap2, .slice ao3 d.tapes.1 cap3, .int .i64 d.writes, .int .i64 d.stop, .bool d.down] #[.int .i64 0, .int .i64 0, .slice none 0 0] 30 41
  clear h g3 h2 hc1 hm1 hsz
  go_enter Tryz.func37, Tryz.ntmps37
  go_wp2_with (refine wp_loadBox 30 (.tmp 4) rfl rfl w.heap.size rfl (cs := [.int .i64 (d.shape 0), .int .i64 (d.shape 1), .int .i64 (d.shape 2), .int .i64 (d.shape 3), .int .i64 (d.shape 4), .int .i64 (d.shape 5), .int .i64 (d.shape 6), .int .i64 (d.shape 7), .int .i64 (d.shape 8), .slice ao1 d.groups.1 cap1, .slice ao2 d.on.1 cap2, .slice ao3 d.tapes.1 cap3, .int .i64 d.writes, .int .i64 d.stop, .bool d.down]) T0.b1 Tryz.underlying30 size_W rfl ?_)
  refine (CQ _ T0.bel (Nat.le_trans hhi T0.bel.size) HSZ.out).mono ?_
  rintro e w1 ⟨x, rfl, hx, b1⟩
  have T1 := T0.call b1
  have HT1 : Hid (Two w w1 #[.int .i64 (d.shape 0), .int .i64 (d.shape 1), .int .i64 (d.shape 2), .int .i64 (d.shape 3), .int .i64 (d.shape 4), .int .i64 (d.shape 5), .int .i64 (d.shape 6), .int .i64 (d.shape 7), .int .i64 (d.shape 8), .slice ao1 d.groups.1 cap1, .slice ao2 d.on.1 cap2, .slice ao3 d.tapes.1 cap3, .int .i64 d.writes, .int .i64 d.stop, .bool d.down] #[.int .i64 0, .int .i64 0, .slice none 0 0] 30 41) := T1
  have HX : Hid (AskAns d x) := hx
  have z1 : w.heap.size + 1 < w1.heap.size := T1.b2.lt
  clear T0 b1 CQ hx
  by_cases hx0 : x = 0
  case neg =>
    have hne : (x != 0) = true := by simp [hx0]
    have r_0 : w1.cell? ⟨w.heap.size + 1, 0, none⟩ = some (.int .i64 0) := T1.b2.cell 0
    have rf_0 : w1.frozen? ⟨w.heap.size + 1, 0, none⟩ = false := T1.b2.frozen 0
    have r_1 : w1.cell? ⟨w.heap.size + 1, 1, none⟩ = some (.int .i64 0) := T1.b2.cell 1
    have rf_1 : w1.frozen? ⟨w.heap.size + 1, 1, none⟩ = false := T1.b2.frozen 1
    have r_2 : w1.cell? ⟨w.heap.size + 1, 2, none⟩ = some (.slice none 0 0) := T1.b2.cell 2
    have rf_2 : w1.frozen? ⟨w.heap.size + 1, 2, none⟩ = false := T1.b2.frozen 2
    have HB : Hid (Below w.heap.size w w1) := T1.bel
    clear T1
    go_wp2
    refine bodyPost_ret (v := .agg #[.int .i64 x, .int .i64 0, .slice none 0 0]) (by simp [results, Tryz.results37, go_sem, r_0, r_1, r_2]) rfl ?_
    refine ⟨⟨x, zeroBl⟩, [.int .i64 x, .int .i64 0, .slice none 0 0], rfl, .inl ⟨x, hx0, HX.out, rfl⟩, own_bresCode _ x (ask_small HX.out) _ _, ?_⟩
    exact HB.out.trans (stN_below (by omega) [.int .i64 x, .int .i64 0, .slice none 0 0] 0)
  subst hx0
  have hok := ask_ok HX.out
  have HOK : Hid (OkWorld d) := hok
  have x_0 : w1.cell? ⟨w.heap.size, 0, none⟩ = some (.int .i64 (d.shape 0)) := T1.b1.cell 0
  have x_1 : w1.cell? ⟨w.heap.size, 1, none⟩ = some (.int .i64 (d.shape 1)) := T1.b1.cell 1
  have x_2 : w1.cell? ⟨w.heap.size, 2, none⟩ = some (.int .i64 (d.shape 2)) := T1.b1.cell 2
  have x_3 : w1.cell? ⟨w.heap.size, 3, none⟩ = some (.int .i64 (d.shape 3)) := T1.b1.cell 3
  have x_4 : w1.cell? ⟨w.heap.size, 4, none⟩ = some (.int .i64 (d.shape 4)) := T1.b1.cell 4
  have x_5 : w1.cell? ⟨w.heap.size, 5, none⟩ = some (.int .i64 (d.shape 5)) := T1.b1.cell 5
  have x_6 : w1.cell? ⟨w.heap.size, 6, none⟩ = some (.int .i64 (d.shape 6)) := T1.b1.cell 6
  have x_7 : w1.cell? ⟨w.heap.size, 7, none⟩ = some (.int .i64 (d.shape 7)) := T1.b1.cell 7
  have x_8 : w1.cell? ⟨w.heap.size, 8, none⟩ = some (.int .i64 (d.shape 8)) := T1.b1.cell 8
  have x_10 : w1.cell? ⟨w.heap.size, 10, none⟩ = some (.slice ao2 d.on.1 cap2) := T1.b1.cell 10
  clear T1
  have CP := fun w' => l5Place_any d.shape hok.shape g k r w'
  unfold shapeV at CP
  clear hok
  go_wp2_with fail
  refine (CP _).mono ?_
  rintro e w2 ⟨t, rfl, ht, b2⟩
  have T2 := HT1.out.call b2
  have HT2 : Hid (Two w w2 #[.int .i64 (d.shape 0), .int .i64 (d.shape 1), .int .i64 (d.shape 2), .int .i64 (d.shape 3), .int .i64 (d.shape 4), .int .i64 (d.shape 5), .int .i64 (d.shape 6), .int .i64 (d.shape 7), .int .i64 (d.shape 8), .slice ao1 d.groups.1 cap1, .slice ao2 d.on.1 cap2, .slice ao3 d.tapes.1 cap3, .int .i64 d.writes, .int .i64 d.stop, .bool d.down] #[.int .i64 0, .int .i64 0, .slice none 0 0] 30 41) := T2
  have HP : Hid (t = true ↔ PlaceP d.shape g k r) := ht
  clear b2 ht CP HT1 x_0 x_1 x_2 x_3 x_4 x_5 x_6 x_7 x_8 x_10
  cases t with
  | false =>
    have r_0 : w2.cell? ⟨w.heap.size + 1, 0, none⟩ = some (.int .i64 0) := T2.b2.cell 0
    have rf_0 : w2.frozen? ⟨w.heap.size + 1, 0, none⟩ = false := T2.b2.frozen 0
    have r_1 : w2.cell? ⟨w.heap.size + 1, 1, none⟩ = some (.int .i64 0) := T2.b2.cell 1
    have rf_1 : w2.frozen? ⟨w.heap.size + 1, 1, none⟩ = false := T2.b2.frozen 1
    have r_2 : w2.cell? ⟨w.heap.size + 1, 2, none⟩ = some (.slice none 0 0) := T2.b2.cell 2
    have rf_2 : w2.frozen? ⟨w.heap.size + 1, 2, none⟩ = false := T2.b2.frozen 2
    have HB : Hid (Below w.heap.size w w2) := T2.bel
    clear T2
    go_wp2
    refine bodyPost_ret (v := .agg #[.int .i64 3, .int .i64 0, .slice none 0 0]) (by simp [results, Tryz.results37, go_sem, r_0, r_1, r_2]) rfl ?_
    refine ⟨⟨3, zeroBl⟩, [.int .i64 3, .int .i64 0, .slice none 0 0], rfl, .inr ⟨HX.out, .inl ⟨fun h => by have := HP.out.2 h; simp at this, rfl⟩⟩, own_bresCode _ 3 (by decide) _ _, ?_⟩
    exact HB.out.trans (stN_below (by omega) [.int .i64 3, .int .i64 0, .slice none 0 0] 0)
  | true =>
  have hpl := HP.out.1 (by simp)
  have x10 : w2.cell? ⟨w.heap.size, 10, none⟩ = some (.slice ao2 d.on.1 cap2) := T2.b1.cell 10
  clear T2
  go_wp2_with fail
  refine (l1Has_any _ d.on.1 d.on.2 hi g _ (HR2.out.below HT2.out.bel hhi)).mono ?_
  rintro e w3 ⟨t, rfl, ht, b3⟩
  have T3 := HT2.out.call b3
  have HT3 : Hid (Two w w3 #[.int .i64 (d.shape 0), .int .i64 (d.shape 1), .int .i64 (d.shape 2), .int .i64 (d.shape 3), .int .i64 (d.shape 4), .int .i64 (d.shape 5), .int .i64 (d.shape 6), .int .i64 (d.shape 7), .int .i64 (d.shape 8), .slice ao1 d.groups.1 cap1, .slice ao2 d.on.1 cap2, .slice ao3 d.tapes.1 cap3, .int .i64 d.writes, .int .i64 d.stop, .bool d.down] #[.int .i64 0, .int .i64 0, .slice none 0 0] 30 41) := T3
  have HH : Hid (t = true ↔ HasP d.on.1 d.on.2 g) := ht
  have HPL : Hid (PlaceP d.shape g k r) := hpl
  clear b3 ht HT2 x10
  cases t with
  | false =>
    clear hpl
    have r_0 : w3.cell? ⟨w.heap.size + 1, 0, none⟩ = some (.int .i64 0) := T3.b2.cell 0
    have rf_0 : w3.frozen? ⟨w.heap.size + 1, 0, none⟩ = false := T3.b2.frozen 0
    have r_1 : w3.cell? ⟨w.heap.size + 1, 1, none⟩ = some (.int .i64 0) := T3.b2.cell 1
    have rf_1 : w3.frozen? ⟨w.heap.size + 1, 1, none⟩ = false := T3.b2.frozen 1
    have r_2 : w3.cell? ⟨w.heap.size + 1, 2, none⟩ = some (.slice none 0 0) := T3.b2.cell 2
    have rf_2 : w3.frozen? ⟨w.heap.size + 1, 2, none⟩ = false := T3.b2.frozen 2
    have HB : Hid (Below w.heap.size w w3) := T3.bel
    clear T3
    go_wp2
    refine bodyPost_ret (v := .agg #[.int .i64 8, .int .i64 0, .slice none 0 0]) (by simp [results, Tryz.results37, go_sem, r_0, r_1, r_2]) rfl ?_
    refine ⟨⟨8, zeroBl⟩, [.int .i64 8, .int .i64 0, .slice none 0 0], rfl, .inr ⟨HX.out, .inr ⟨HPL.out, .inl ⟨fun h => by have := HH.out.2 h; simp at this, rfl⟩⟩⟩, own_bresCode _ 8 (by decide) _ _, ?_⟩
    exact HB.out.trans (stN_below (by omega) [.int .i64 8, .int .i64 0, .slice none 0 0] 0)
  | true =>
  obtain ⟨hA, hB, hC⟩ := hpl
  have hf := HOK.out.form.1
  unfold InP at hA hB hC
  obtain ⟨G, rfl⟩ : ∃ G : Nat, g = (G : Int) := ⟨g.toNat, by omega⟩
  obtain ⟨K, rfl⟩ : ∃ K : Nat, k = (K : Int) := ⟨k.toNat, by omega⟩
  obtain ⟨R, rfl⟩ : ∃ R : Nat, r = (R : Int) := ⟨r.toNat, by omega⟩
  have hG : G < d.groups.1 := by have := hf.1; omega
  have hK : K < (d.groups.2 G).1 := by have := (hf.2 G hG).1; omega
  have hD := (hf.2 G hG).2 K hK
  have hR : R < ((d.groups.2 G).2 K).blocks.1 := by have := hD.1; omega
  obtain ⟨b1, off1, he1, hb1, hel1⟩ := HC1.out (by omega)
  subst he1
  obtain ⟨cg, hrg, hcg⟩ := elem_rd (t := 0) hel1 T3.bel hhi hb1 hG
  obtain ⟨ao9, cap9, rfl⟩ := sl_form hrg
  have c0 : w3.cell? ⟨b1, off1 + G, none⟩ = some (.slice ao9 (d.groups.2 G).1 cap9) := by
    have := hcg 0 (by decide)
    have e : off1 + (G * (layDrive.slice 48).sz + 0) = off1 + G := by show off1 + (G * 1 + 0) = off1 + G; omega
    rw [e] at this
    exact this
  obtain ⟨_, _, e9, hm9, hc9⟩ := hrg
  cases e9
  obtain ⟨b9, off9, he9, hb9, hel9⟩ := hc9 (by omega)
  subst he9
  obtain ⟨cd, hrd, hcd⟩ := hel9 K hK
  obtain ⟨ao5, cap5, rfl, g5⟩ := Drive_rd hrd
  obtain ⟨D, hDD⟩ : ∃ x, x = (d.groups.2 G).2 K := ⟨_, rfl⟩
  rw [← hDD] at hcd g5 hR
  have HD : Hid (drvAt d (G : Int) (K : Int) = D) := by show (d.groups.2 (G : Int).toNat).2 (K : Int).toNat = D; rw [hDD]; rfl
  have c2 : w3.cell? ⟨b9, off9 + K * 2, none⟩ = some (.bool D.wiped) := hcd 0 (by decide)
  have c3 : w3.cell? ⟨b9, off9 + K * 2 + 1, none⟩ = some (.slice ao5 D.blocks.1 cap5) := hcd 1 (by decide)
  obtain ⟨_, _, e5, hm5, hc5⟩ := g5
  cases e5
  obtain ⟨b5, off5, he5, hb5, hel5⟩ := hc5 (by omega)
  subst he5
  obtain ⟨cb, hrb, hcb⟩ := hel5 R hR
  have hbz : szBlockD (D.blocks.2 R) ≤ 1048576 := by
    have h1 : szSl (szSl szDriveD) d.groups ≤ 1048576 := by have := HSZ.out; unfold szWorldD at this; omega
    have h2 : szSl szDriveD (d.groups.2 G) ≤ 1048576 := szSl_at h1 hG
    have h3 : szDriveD ((d.groups.2 G).2 K) ≤ 1048576 := szSl_at h2 hK
    rw [← hDD] at h3
    exact szSl_at (s := szBlockD) (p := D.blocks) h3 hR
  have CC := l5CopyBlock_is _ (D.blocks.2 R) hi w3 hrb (Nat.le_trans hhi T3.bel.size) hbz
  obtain ⟨ao0, cap0, rfl, -⟩ := Block_rd hrb
  have s0 : w3.cell? ⟨b5, off5 + R * 2, none⟩ = some (.int .i64 (D.blocks.2 R).stamp) := hcb 0 (by decide)
  have s1 : w3.cell? ⟨b5, off5 + R * 2 + 1, none⟩ = some (.slice ao0 (D.blocks.2 R).bytes.1 cap0) := hcb 1 (by decide)
  have x9 : w3.cell? ⟨w.heap.size, 9, none⟩ = some (.slice (some ⟨b1, off1, none⟩) d.groups.1 cap1) := T3.b1.cell 9
  obtain ⟨u, hu⟩ : ∃ b, b = D.wiped := ⟨_, rfl⟩
  rw [← hu] at c2
  have HU : Hid (D.wiped = u) := hu.symm
  clear hel1 hcg hel9 hcd hrd hel5 hcb hrb hDD hbz hf hD hu hc9 hc5 hm9 hm5
  cases u with
  | true =>
    have r_0 : w3.cell? ⟨w.heap.size + 1, 0, none⟩ = some (.int .i64 0) := T3.b2.cell 0
    have rf_0 : w3.frozen? ⟨w.heap.size + 1, 0, none⟩ = false := T3.b2.frozen 0
    have r_1 : w3.cell? ⟨w.heap.size + 1, 1, none⟩ = some (.int .i64 0) := T3.b2.cell 1
    have rf_1 : w3.frozen? ⟨w.heap.size + 1, 1, none⟩ = false := T3.b2.frozen 1
    have r_2 : w3.cell? ⟨w.heap.size + 1, 2, none⟩ = some (.slice none 0 0) := T3.b2.cell 2
    have rf_2 : w3.frozen? ⟨w.heap.size + 1, 2, none⟩ = false := T3.b2.frozen 2
    have HB : Hid (Below w.heap.size w w3) := T3.bel
    clear T3
    go_wp2
    refine bodyPost_ret (v := .agg #[.int .i64 12, .int .i64 0, .slice none 0 0]) (by simp [results, Tryz.results37, go_sem, r_0, r_1, r_2]) rfl ?_
    refine ⟨⟨12, zeroBl⟩, [.int .i64 12, .int .i64 0, .slice none 0 0], rfl, .inr ⟨HX.out, .inr ⟨HPL.out, .inr ⟨HH.out.1 (by simp), .inl ⟨by rw [HD.out]; exact HU.out, rfl⟩⟩⟩⟩, own_bresCode _ 12 (by decide) _ _, ?_⟩
    exact HB.out.trans (stN_below (by omega) [.int .i64 12, .int .i64 0, .slice none 0 0] 0)
  | false =>
  clear T3
  go_wp2_with fail
  refine CC.mono ?_
  rintro e w4 ⟨c4, rfl, o4, b4⟩
  obtain ⟨bo, bc, rfl⟩ := Block_cells o4
  have T4 := HT3.out.call b4
  have r_0 : w4.cell? ⟨w.heap.size + 1, 0, none⟩ = some (.int .i64 0) := T4.b2.cell 0
  have rf_0 : w4.frozen? ⟨w.heap.size + 1, 0, none⟩ = false := T4.b2.frozen 0
  have r_1 : w4.cell? ⟨w.heap.size + 1, 1, none⟩ = some (.int .i64 0) := T4.b2.cell 1
  have rf_1 : w4.frozen? ⟨w.heap.size + 1, 1, none⟩ = false := T4.b2.frozen 1
  have r_2 : w4.cell? ⟨w.heap.size + 1, 2, none⟩ = some (.slice none 0 0) := T4.b2.cell 2
  have rf_2 : w4.frozen? ⟨w.heap.size + 1, 2, none⟩ = false := T4.b2.frozen 2
  have HB4 : Hid (Below w.heap.size w w4) := T4.bel
  have HO4 : Hid (OwnT layBlock w4 w3.heap.size w4.heap.size (D.blocks.2 R) [.int .i64 (D.blocks.2 R).stamp, .slice bo (D.blocks.2 R).bytes.1 bc]) := o4
  have z3 : w.heap.size + 1 < w3.heap.size := HT3.out.b2.lt
  clear T4 o4 b4 CC s0 s1 x9 c0 c2 c3
  go_wp2
  refine bodyPost_ret (v := .agg #[.int .i64 0, .int .i64 (D.blocks.2 R).stamp, .slice bo (D.blocks.2 R).bytes.1 bc]) (by simp [results, Tryz.results37, go_sem, r_0, r_1, r_2]) rfl ?_
  refine ⟨⟨0, D.blocks.2 R⟩, [.int .i64 0, .int .i64 (D.blocks.2 R).stamp, .slice bo (D.blocks.2 R).bytes.1 bc], rfl, .inr ⟨HX.out, .inr ⟨HPL.out, .inr ⟨HH.out.1 (by simp), .inr ⟨by rw [HD.out]; exact HU.out, by rw [HD.out]; rfl⟩⟩⟩⟩, ?_, ?_⟩
  · exact OwnT.finb (own_bres 0 (by decide) HO4.out) (b := w.heap.size + 1) (by omega) (by omega) 0 [.int .i64 0, .int .i64 (D.blocks.2 R).stamp, .slice bo (D.blocks.2 R).bytes.1 bc] _ rfl
  · exact HB4.out.trans (stN_below (by omega) [.int .i64 0, .int .i64 (D.blocks.2 R).stamp, .slice bo (D.blocks.2 R).bytes.1 bc] 0)
set_option maxHeartbeats 16000000 in
set_option maxRecDepth 20000 in
theorem implRead_any (d : WorldD) (g k r : Int) (cs : List Value) (hi : Nat) (w : World) (h : layWorld.rd w hi d cs) (hhi : hi ≤ w.heap.size) (hsz : szWorldD d ≤ 1048576) :
    Calls Tryz.prog 23 #[.agg cs.toArray, .int .i64 g, .int .i64 k, .int .i64 r] w (BResPost (ReadAns d g k r) w) := by
  have CQ := fun w' hb => powered_any d cs hi w' (layWorld.rd_below h (B := w.heap.size) hb hhi)
  have CO := fun w' hb => isOn_any d cs hi g w' (layWorld.rd_below h (B := w.heap.size) hb hhi)
  obtain ⟨ao1, cap1, ao2, cap2, ao3, cap3, rfl, g1, g2, g3, -⟩ := World_rd h
  obtain ⟨_, e2, ⟨h2, _⟩, _⟩ := g2
  cases e2
  obtain ⟨_, _, e1, hm1, hc1⟩ := g1
  cases e1
  have HC1 : Hid (d.groups.1 ≠ 0 → ∃ b off, ao1 = some ⟨b, off, none⟩ ∧ b < hi ∧ ∀ i, i < d.groups.1 → ∃ ce, (layDrive.slice 48).rd w hi (d.groups.2 i) ce ∧ ∀ j, j < (layDrive.slice 48).sz → w.cell? ⟨b, off + (i * (layDrive.slice 48).sz + j), none⟩ = ce[j]?) := hc1
  have HR2 : Hid (RdI w hi (.slice ao2 d.on.1 cap2) d.on.1 d.on.2) := h2
  have HSZ : Hid (szWorldD d ≤ 1048576) := hsz
  have T0 := two_newb w #[.int .i64 (d.shape 0), .int .i64 (d.shape 1), .int .i64 (d.shape 2), .int .i64 (d.shape 3), .int .i64 (d.shape 4), .int .i64 (d.shape 5), .int .i64 (d.shape 6), .int .i64 (d.shape 7), .int .i64 (d.shape 8), .slice ao1 d.groups.1 cap1, .slice ao2 d.on.1 cap2, .slice ao3 d.tapes.1 cap3, .int .i64 d.writes, .int .i64 d.stop, .bool d.down] #[.int .i64 0, .int .i64 0, .slice none 0 0] 30 41
  clear h g3 h2 hc1 hm1 hsz
  go_enter Tryz.func23, Tryz.ntmps23
  go_wp2_with (refine wp_loadBox 30 (.tmp 4) rfl rfl w.heap.size rfl (cs := [.int .i64 (d.shape 0), .int .i64 (d.shape 1), .int .i64 (d.shape 2), .int .i64 (d.shape 3), .int .i64 (d.shape 4), .int .i64 (d.shape 5), .int .i64 (d.shape 6), .int .i64 (d.shape 7), .int .i64 (d.shape 8), .slice ao1 d.groups.1 cap1, .slice ao2 d.on.1 cap2, .slice ao3 d.tapes.1 cap3, .int .i64 d.writes, .int .i64 d.stop, .bool d.down]) T0.b1 Tryz.underlying30 size_W rfl ?_)
  refine (CQ _ T0.bel (Nat.le_trans hhi T0.bel.size) HSZ.out).mono ?_
  rintro e w1 ⟨x, rfl, hx, b1⟩
  have T1 := T0.call b1
  have HT1 : Hid (Two w w1 #[.int .i64 (d.shape 0), .int .i64 (d.shape 1), .int .i64 (d.shape 2), .int .i64 (d.shape 3), .int .i64 (d.shape 4), .int .i64 (d.shape 5), .int .i64 (d.shape 6), .int .i64 (d.shape 7), .int .i64 (d.shape 8), .slice ao1 d.groups.1 cap1, .slice ao2 d.on.1 cap2, .slice ao3 d.tapes.1 cap3, .int .i64 d.writes, .int .i64 d.stop, .bool d.down] #[.int .i64 0, .int .i64 0, .slice none 0 0] 30 41) := T1
  have HX : Hid (AskAns d x) := hx
  have z1 : w.heap.size + 1 < w1.heap.size := T1.b2.lt
  clear T0 b1 CQ hx
  by_cases hx0 : x = 0
  case neg =>
    have hne : (x != 0) = true := by simp [hx0]
    have r_0 : w1.cell? ⟨w.heap.size + 1, 0, none⟩ = some (.int .i64 0) := T1.b2.cell 0
    have rf_0 : w1.frozen? ⟨w.heap.size + 1, 0, none⟩ = false := T1.b2.frozen 0
    have r_1 : w1.cell? ⟨w.heap.size + 1, 1, none⟩ = some (.int .i64 0) := T1.b2.cell 1
    have rf_1 : w1.frozen? ⟨w.heap.size + 1, 1, none⟩ = false := T1.b2.frozen 1
    have r_2 : w1.cell? ⟨w.heap.size + 1, 2, none⟩ = some (.slice none 0 0) := T1.b2.cell 2
    have rf_2 : w1.frozen? ⟨w.heap.size + 1, 2, none⟩ = false := T1.b2.frozen 2
    have HB : Hid (Below w.heap.size w w1) := T1.bel
    clear T1
    go_wp2
    refine bodyPost_ret (v := .agg #[.int .i64 x, .int .i64 0, .slice none 0 0]) (by simp [results, Tryz.results23, go_sem, r_0, r_1, r_2]) rfl ?_
    refine ⟨⟨x, zeroBl⟩, [.int .i64 x, .int .i64 0, .slice none 0 0], rfl, .inl ⟨x, hx0, HX.out, rfl⟩, own_bresCode _ x (ask_small HX.out) _ _, ?_⟩
    exact HB.out.trans (stN_below (by omega) [.int .i64 x, .int .i64 0, .slice none 0 0] 0)
  subst hx0
  have hok := ask_ok HX.out
  have HOK : Hid (OkWorld d) := hok
  have x_0 : w1.cell? ⟨w.heap.size, 0, none⟩ = some (.int .i64 (d.shape 0)) := T1.b1.cell 0
  have x_1 : w1.cell? ⟨w.heap.size, 1, none⟩ = some (.int .i64 (d.shape 1)) := T1.b1.cell 1
  have x_2 : w1.cell? ⟨w.heap.size, 2, none⟩ = some (.int .i64 (d.shape 2)) := T1.b1.cell 2
  have x_3 : w1.cell? ⟨w.heap.size, 3, none⟩ = some (.int .i64 (d.shape 3)) := T1.b1.cell 3
  have x_4 : w1.cell? ⟨w.heap.size, 4, none⟩ = some (.int .i64 (d.shape 4)) := T1.b1.cell 4
  have x_5 : w1.cell? ⟨w.heap.size, 5, none⟩ = some (.int .i64 (d.shape 5)) := T1.b1.cell 5
  have x_6 : w1.cell? ⟨w.heap.size, 6, none⟩ = some (.int .i64 (d.shape 6)) := T1.b1.cell 6
  have x_7 : w1.cell? ⟨w.heap.size, 7, none⟩ = some (.int .i64 (d.shape 7)) := T1.b1.cell 7
  have x_8 : w1.cell? ⟨w.heap.size, 8, none⟩ = some (.int .i64 (d.shape 8)) := T1.b1.cell 8
  have x_10 : w1.cell? ⟨w.heap.size, 10, none⟩ = some (.slice ao2 d.on.1 cap2) := T1.b1.cell 10
  clear T1
  obtain ⟨t1, h1⟩ := exB (DriveP d.shape g k)
  obtain ⟨t2, h2⟩ := exB (InP r 0 (d.shape 4 - 1))
  have CP := fun w' => det_b (isDrive_any d.shape hok.shape g k w') h1
  have CR := fun w' => isRow_b hok.shape h2 w'
  have HP : Hid (PlaceP d.shape g k r ↔ (t1 = true ∧ t2 = true)) := by
    show PlaceP d.shape g k r ↔ _
    rw [h1, h2]
    unfold PlaceP DriveP
    constructor
    · rintro ⟨p, q, r⟩; exact ⟨⟨p, q⟩, r⟩
    · rintro ⟨⟨p, q⟩, r⟩; exact ⟨p, q, r⟩
  unfold shapeV at CP CR
  clear hok h1 h2
  go_wp2_with fail
  refine (CP _).mono ?_
  rintro e w1' ⟨rfl, b1⟩
  have T1 := HT1.out.call b1
  have HT1' : Hid (Two w w1' #[.int .i64 (d.shape 0), .int .i64 (d.shape 1), .int .i64 (d.shape 2), .int .i64 (d.shape 3), .int .i64 (d.shape 4), .int .i64 (d.shape 5), .int .i64 (d.shape 6), .int .i64 (d.shape 7), .int .i64 (d.shape 8), .slice ao1 d.groups.1 cap1, .slice ao2 d.on.1 cap2, .slice ao3 d.tapes.1 cap3, .int .i64 d.writes, .int .i64 d.stop, .bool d.down] #[.int .i64 0, .int .i64 0, .slice none 0 0] 30 41) := T1
  clear b1 CP HT1 x_0 x_1 x_2 x_3 x_4 x_5 x_6 x_7 x_8 x_10
  cases t1 with
  | false =>
    have r_0 : w1'.cell? ⟨w.heap.size + 1, 0, none⟩ = some (.int .i64 0) := T1.b2.cell 0
    have rf_0 : w1'.frozen? ⟨w.heap.size + 1, 0, none⟩ = false := T1.b2.frozen 0
    have r_1 : w1'.cell? ⟨w.heap.size + 1, 1, none⟩ = some (.int .i64 0) := T1.b2.cell 1
    have rf_1 : w1'.frozen? ⟨w.heap.size + 1, 1, none⟩ = false := T1.b2.frozen 1
    have r_2 : w1'.cell? ⟨w.heap.size + 1, 2, none⟩ = some (.slice none 0 0) := T1.b2.cell 2
    have rf_2 : w1'.frozen? ⟨w.heap.size + 1, 2, none⟩ = false := T1.b2.frozen 2
    have HB : Hid (Below w.heap.size w w1') := T1.bel
    clear T1
    go_wp2
    refine bodyPost_ret (v := .agg #[.int .i64 3, .int .i64 0, .slice none 0 0]) (by simp [results, Tryz.results23, go_sem, r_0, r_1, r_2]) rfl ?_
    refine ⟨⟨3, zeroBl⟩, [.int .i64 3, .int .i64 0, .slice none 0 0], rfl, .inr ⟨HX.out, .inl ⟨fun h => by have := HP.out.1 h; simp at this, rfl⟩⟩, own_bresCode _ 3 (by decide) _ _, ?_⟩
    exact HB.out.trans (stN_below (by omega) [.int .i64 3, .int .i64 0, .slice none 0 0] 0)
  | true =>
  have x_0 : w1'.cell? ⟨w.heap.size, 0, none⟩ = some (.int .i64 (d.shape 0)) := T1.b1.cell 0
  have x_1 : w1'.cell? ⟨w.heap.size, 1, none⟩ = some (.int .i64 (d.shape 1)) := T1.b1.cell 1
  have x_2 : w1'.cell? ⟨w.heap.size, 2, none⟩ = some (.int .i64 (d.shape 2)) := T1.b1.cell 2
  have x_3 : w1'.cell? ⟨w.heap.size, 3, none⟩ = some (.int .i64 (d.shape 3)) := T1.b1.cell 3
  have x_4 : w1'.cell? ⟨w.heap.size, 4, none⟩ = some (.int .i64 (d.shape 4)) := T1.b1.cell 4
  have x_5 : w1'.cell? ⟨w.heap.size, 5, none⟩ = some (.int .i64 (d.shape 5)) := T1.b1.cell 5
  have x_6 : w1'.cell? ⟨w.heap.size, 6, none⟩ = some (.int .i64 (d.shape 6)) := T1.b1.cell 6
  have x_7 : w1'.cell? ⟨w.heap.size, 7, none⟩ = some (.int .i64 (d.shape 7)) := T1.b1.cell 7
  have x_8 : w1'.cell? ⟨w.heap.size, 8, none⟩ = some (.int .i64 (d.shape 8)) := T1.b1.cell 8
  clear T1
  go_wp2_with fail
  refine (CR _).mono ?_
  rintro e w2 ⟨rfl, b2⟩
  have T2 := HT1'.out.call b2
  have HT2 : Hid (Two w w2 #[.int .i64 (d.shape 0), .int .i64 (d.shape 1), .int .i64 (d.shape 2), .int .i64 (d.shape 3), .int .i64 (d.shape 4), .int .i64 (d.shape 5), .int .i64 (d.shape 6), .int .i64 (d.shape 7), .int .i64 (d.shape 8), .slice ao1 d.groups.1 cap1, .slice ao2 d.on.1 cap2, .slice ao3 d.tapes.1 cap3, .int .i64 d.writes, .int .i64 d.stop, .bool d.down] #[.int .i64 0, .int .i64 0, .slice none 0 0] 30 41) := T2
  clear b2 CR HT1' x_0 x_1 x_2 x_3 x_4 x_5 x_6 x_7 x_8
  cases t2 with
  | false =>
    have r_0 : w2.cell? ⟨w.heap.size + 1, 0, none⟩ = some (.int .i64 0) := T2.b2.cell 0
    have rf_0 : w2.frozen? ⟨w.heap.size + 1, 0, none⟩ = false := T2.b2.frozen 0
    have r_1 : w2.cell? ⟨w.heap.size + 1, 1, none⟩ = some (.int .i64 0) := T2.b2.cell 1
    have rf_1 : w2.frozen? ⟨w.heap.size + 1, 1, none⟩ = false := T2.b2.frozen 1
    have r_2 : w2.cell? ⟨w.heap.size + 1, 2, none⟩ = some (.slice none 0 0) := T2.b2.cell 2
    have rf_2 : w2.frozen? ⟨w.heap.size + 1, 2, none⟩ = false := T2.b2.frozen 2
    have HB : Hid (Below w.heap.size w w2) := T2.bel
    clear T2
    go_wp2
    refine bodyPost_ret (v := .agg #[.int .i64 3, .int .i64 0, .slice none 0 0]) (by simp [results, Tryz.results23, go_sem, r_0, r_1, r_2]) rfl ?_
    refine ⟨⟨3, zeroBl⟩, [.int .i64 3, .int .i64 0, .slice none 0 0], rfl, .inr ⟨HX.out, .inl ⟨fun h => by have := HP.out.1 h; simp at this, rfl⟩⟩, own_bresCode _ 3 (by decide) _ _, ?_⟩
    exact HB.out.trans (stN_below (by omega) [.int .i64 3, .int .i64 0, .slice none 0 0] 0)
  | true =>
  have hpl := HP.out.2 (by simp)
  clear T2
  go_wp2_with (refine wp_loadBox 30 (.tmp 4) rfl rfl w.heap.size rfl (cs := [.int .i64 (d.shape 0), .int .i64 (d.shape 1), .int .i64 (d.shape 2), .int .i64 (d.shape 3), .int .i64 (d.shape 4), .int .i64 (d.shape 5), .int .i64 (d.shape 6), .int .i64 (d.shape 7), .int .i64 (d.shape 8), .slice ao1 d.groups.1 cap1, .slice ao2 d.on.1 cap2, .slice ao3 d.tapes.1 cap3, .int .i64 d.writes, .int .i64 d.stop, .bool d.down]) HT2.out.b1 Tryz.underlying30 size_W rfl ?_)
  refine (CO _ HT2.out.bel (Nat.le_trans hhi HT2.out.bel.size)).mono ?_
  rintro e w3 ⟨t, rfl, ht, b3⟩
  have T3 := HT2.out.call b3
  have HT3 : Hid (Two w w3 #[.int .i64 (d.shape 0), .int .i64 (d.shape 1), .int .i64 (d.shape 2), .int .i64 (d.shape 3), .int .i64 (d.shape 4), .int .i64 (d.shape 5), .int .i64 (d.shape 6), .int .i64 (d.shape 7), .int .i64 (d.shape 8), .slice ao1 d.groups.1 cap1, .slice ao2 d.on.1 cap2, .slice ao3 d.tapes.1 cap3, .int .i64 d.writes, .int .i64 d.stop, .bool d.down] #[.int .i64 0, .int .i64 0, .slice none 0 0] 30 41) := T3
  have HH : Hid (t = true ↔ HasP d.on.1 d.on.2 g) := ht
  have HPL : Hid (PlaceP d.shape g k r) := hpl
  clear b3 ht HT2 CO
  cases t with
  | false =>
    clear hpl
    have r_0 : w3.cell? ⟨w.heap.size + 1, 0, none⟩ = some (.int .i64 0) := T3.b2.cell 0
    have rf_0 : w3.frozen? ⟨w.heap.size + 1, 0, none⟩ = false := T3.b2.frozen 0
    have r_1 : w3.cell? ⟨w.heap.size + 1, 1, none⟩ = some (.int .i64 0) := T3.b2.cell 1
    have rf_1 : w3.frozen? ⟨w.heap.size + 1, 1, none⟩ = false := T3.b2.frozen 1
    have r_2 : w3.cell? ⟨w.heap.size + 1, 2, none⟩ = some (.slice none 0 0) := T3.b2.cell 2
    have rf_2 : w3.frozen? ⟨w.heap.size + 1, 2, none⟩ = false := T3.b2.frozen 2
    have HB : Hid (Below w.heap.size w w3) := T3.bel
    clear T3
    go_wp2
    refine bodyPost_ret (v := .agg #[.int .i64 8, .int .i64 0, .slice none 0 0]) (by simp [results, Tryz.results23, go_sem, r_0, r_1, r_2]) rfl ?_
    refine ⟨⟨8, zeroBl⟩, [.int .i64 8, .int .i64 0, .slice none 0 0], rfl, .inr ⟨HX.out, .inr ⟨HPL.out, .inl ⟨fun h => by have := HH.out.2 h; simp at this, rfl⟩⟩⟩, own_bresCode _ 8 (by decide) _ _, ?_⟩
    exact HB.out.trans (stN_below (by omega) [.int .i64 8, .int .i64 0, .slice none 0 0] 0)
  | true =>
  obtain ⟨hA, hB, hC⟩ := hpl
  have hf := HOK.out.form.1
  unfold InP at hA hB hC
  obtain ⟨G, rfl⟩ : ∃ G : Nat, g = (G : Int) := ⟨g.toNat, by omega⟩
  obtain ⟨K, rfl⟩ : ∃ K : Nat, k = (K : Int) := ⟨k.toNat, by omega⟩
  obtain ⟨R, rfl⟩ : ∃ R : Nat, r = (R : Int) := ⟨r.toNat, by omega⟩
  have hG : G < d.groups.1 := by have := hf.1; omega
  have hK : K < (d.groups.2 G).1 := by have := (hf.2 G hG).1; omega
  have hD := (hf.2 G hG).2 K hK
  have hR : R < ((d.groups.2 G).2 K).blocks.1 := by have := hD.1; omega
  obtain ⟨b1, off1, he1, hb1, hel1⟩ := HC1.out (by omega)
  subst he1
  obtain ⟨cg, hrg, hcg⟩ := elem_rd (t := 0) hel1 T3.bel hhi hb1 hG
  obtain ⟨ao9, cap9, rfl⟩ := sl_form hrg
  have c0 : w3.cell? ⟨b1, off1 + G, none⟩ = some (.slice ao9 (d.groups.2 G).1 cap9) := by
    have := hcg 0 (by decide)
    have e : off1 + (G * (layDrive.slice 48).sz + 0) = off1 + G := by show off1 + (G * 1 + 0) = off1 + G; omega
    rw [e] at this
    exact this
  obtain ⟨_, _, e9, hm9, hc9⟩ := hrg
  cases e9
  obtain ⟨b9, off9, he9, hb9, hel9⟩ := hc9 (by omega)
  subst he9
  obtain ⟨cd, hrd, hcd⟩ := hel9 K hK
  obtain ⟨ao5, cap5, rfl, g5⟩ := Drive_rd hrd
  obtain ⟨D, hDD⟩ : ∃ x, x = (d.groups.2 G).2 K := ⟨_, rfl⟩
  rw [← hDD] at hcd g5 hR
  have HD : Hid (drvAt d (G : Int) (K : Int) = D) := by show (d.groups.2 (G : Int).toNat).2 (K : Int).toNat = D; rw [hDD]; rfl
  have c2 : w3.cell? ⟨b9, off9 + K * 2, none⟩ = some (.bool D.wiped) := hcd 0 (by decide)
  have c3 : w3.cell? ⟨b9, off9 + K * 2 + 1, none⟩ = some (.slice ao5 D.blocks.1 cap5) := hcd 1 (by decide)
  obtain ⟨_, _, e5, hm5, hc5⟩ := g5
  cases e5
  obtain ⟨b5, off5, he5, hb5, hel5⟩ := hc5 (by omega)
  subst he5
  obtain ⟨cb, hrb, hcb⟩ := hel5 R hR
  have hbz : szBlockD (D.blocks.2 R) ≤ 1048576 := by
    have h1 : szSl (szSl szDriveD) d.groups ≤ 1048576 := by have := HSZ.out; unfold szWorldD at this; omega
    have h2 : szSl szDriveD (d.groups.2 G) ≤ 1048576 := szSl_at h1 hG
    have h3 : szDriveD ((d.groups.2 G).2 K) ≤ 1048576 := szSl_at h2 hK
    rw [← hDD] at h3
    exact szSl_at (s := szBlockD) (p := D.blocks) h3 hR
  have CC := copyBlock_is _ (D.blocks.2 R) hi w3 hrb (Nat.le_trans hhi T3.bel.size) hbz
  obtain ⟨ao0, cap0, rfl, -⟩ := Block_rd hrb
  have s0 : w3.cell? ⟨b5, off5 + R * 2, none⟩ = some (.int .i64 (D.blocks.2 R).stamp) := hcb 0 (by decide)
  have s1 : w3.cell? ⟨b5, off5 + R * 2 + 1, none⟩ = some (.slice ao0 (D.blocks.2 R).bytes.1 cap0) := hcb 1 (by decide)
  have x9 : w3.cell? ⟨w.heap.size, 9, none⟩ = some (.slice (some ⟨b1, off1, none⟩) d.groups.1 cap1) := T3.b1.cell 9
  obtain ⟨u, hu⟩ : ∃ b, b = D.wiped := ⟨_, rfl⟩
  rw [← hu] at c2
  have HU : Hid (D.wiped = u) := hu.symm
  clear hel1 hcg hel9 hcd hrd hel5 hcb hrb hDD hbz hf hD hu hc9 hc5 hm9 hm5
  cases u with
  | true =>
    have r_0 : w3.cell? ⟨w.heap.size + 1, 0, none⟩ = some (.int .i64 0) := T3.b2.cell 0
    have rf_0 : w3.frozen? ⟨w.heap.size + 1, 0, none⟩ = false := T3.b2.frozen 0
    have r_1 : w3.cell? ⟨w.heap.size + 1, 1, none⟩ = some (.int .i64 0) := T3.b2.cell 1
    have rf_1 : w3.frozen? ⟨w.heap.size + 1, 1, none⟩ = false := T3.b2.frozen 1
    have r_2 : w3.cell? ⟨w.heap.size + 1, 2, none⟩ = some (.slice none 0 0) := T3.b2.cell 2
    have rf_2 : w3.frozen? ⟨w.heap.size + 1, 2, none⟩ = false := T3.b2.frozen 2
    have HB : Hid (Below w.heap.size w w3) := T3.bel
    clear T3
    go_wp2
    refine bodyPost_ret (v := .agg #[.int .i64 12, .int .i64 0, .slice none 0 0]) (by simp [results, Tryz.results23, go_sem, r_0, r_1, r_2]) rfl ?_
    refine ⟨⟨12, zeroBl⟩, [.int .i64 12, .int .i64 0, .slice none 0 0], rfl, .inr ⟨HX.out, .inr ⟨HPL.out, .inr ⟨HH.out.1 (by simp), .inl ⟨by rw [HD.out]; exact HU.out, rfl⟩⟩⟩⟩, own_bresCode _ 12 (by decide) _ _, ?_⟩
    exact HB.out.trans (stN_below (by omega) [.int .i64 12, .int .i64 0, .slice none 0 0] 0)
  | false =>
  clear T3
  go_wp2_with fail
  refine CC.mono ?_
  rintro e w4 ⟨c4, rfl, o4, b4⟩
  obtain ⟨bo, bc, rfl⟩ := Block_cells o4
  have T4 := HT3.out.call b4
  have r_0 : w4.cell? ⟨w.heap.size + 1, 0, none⟩ = some (.int .i64 0) := T4.b2.cell 0
  have rf_0 : w4.frozen? ⟨w.heap.size + 1, 0, none⟩ = false := T4.b2.frozen 0
  have r_1 : w4.cell? ⟨w.heap.size + 1, 1, none⟩ = some (.int .i64 0) := T4.b2.cell 1
  have rf_1 : w4.frozen? ⟨w.heap.size + 1, 1, none⟩ = false := T4.b2.frozen 1
  have r_2 : w4.cell? ⟨w.heap.size + 1, 2, none⟩ = some (.slice none 0 0) := T4.b2.cell 2
  have rf_2 : w4.frozen? ⟨w.heap.size + 1, 2, none⟩ = false := T4.b2.frozen 2
  have HB4 : Hid (Below w.heap.size w w4) := T4.bel
  have HO4 : Hid (OwnT layBlock w4 w3.heap.size w4.heap.size (D.blocks.2 R) [.int .i64 (D.blocks.2 R).stamp, .slice bo (D.blocks.2 R).bytes.1 bc]) := o4
  have z3 : w.heap.size + 1 < w3.heap.size := HT3.out.b2.lt
  clear T4 o4 b4 CC s0 s1 x9 c0 c2 c3
  go_wp2
  refine bodyPost_ret (v := .agg #[.int .i64 0, .int .i64 (D.blocks.2 R).stamp, .slice bo (D.blocks.2 R).bytes.1 bc]) (by simp [results, Tryz.results23, go_sem, r_0, r_1, r_2]) rfl ?_
  refine ⟨⟨0, D.blocks.2 R⟩, [.int .i64 0, .int .i64 (D.blocks.2 R).stamp, .slice bo (D.blocks.2 R).bytes.1 bc], rfl, .inr ⟨HX.out, .inr ⟨HPL.out, .inr ⟨HH.out.1 (by simp), .inr ⟨by rw [HD.out]; exact HU.out, by rw [HD.out]; rfl⟩⟩⟩⟩, ?_, ?_⟩
  · exact OwnT.finb (own_bres 0 (by decide) HO4.out) (b := w.heap.size + 1) (by omega) (by omega) 0 [.int .i64 0, .int .i64 (D.blocks.2 R).stamp, .slice bo (D.blocks.2 R).bytes.1 bc] _ rfl
  · exact HB4.out.trans (stN_below (by omega) [.int .i64 0, .int .i64 (D.blocks.2 R).stamp, .slice bo (D.blocks.2 R).bytes.1 bc] 0)
end Go.Proofs.YtlppdepihchnkaaGreat

namespace Go.Proofs.YtlppdepihchnkaaGreat
open Go.ChangeShapes Go.WideShapes Go.ChangeAt Go.RowKit F256
set_option linter.unusedVariables false
set_option linter.unusedSimpArgs false
theorem fifteen {w : World} {b : Nat} {t : TypeId} {a0 a1 a2 a3 a4 a5 a6 a7 a8 a9 a10 a11 a12 a13 a14 : Value} (h : Box w b #[a0, a1, a2, a3, a4, a5, a6, a7, a8, a9, a10, a11, a12, a13, a14] t) :
    w.cell? ⟨b, 0, none⟩ = some a0 ∧ w.cell? ⟨b, 1, none⟩ = some a1 ∧ w.cell? ⟨b, 2, none⟩ = some a2 ∧ w.cell? ⟨b, 3, none⟩ = some a3 ∧ w.cell? ⟨b, 4, none⟩ = some a4 ∧ w.cell? ⟨b, 5, none⟩ = some a5 ∧ w.cell? ⟨b, 6, none⟩ = some a6 ∧ w.cell? ⟨b, 7, none⟩ = some a7 ∧ w.cell? ⟨b, 8, none⟩ = some a8 ∧ w.cell? ⟨b, 9, none⟩ = some a9 ∧ w.cell? ⟨b, 10, none⟩ = some a10 ∧ w.cell? ⟨b, 11, none⟩ = some a11 ∧ w.cell? ⟨b, 12, none⟩ = some a12 ∧ w.cell? ⟨b, 13, none⟩ = some a13 ∧ w.cell? ⟨b, 14, none⟩ = some a14 :=
  ⟨h.cell 0, h.cell 1, h.cell 2, h.cell 3, h.cell 4, h.cell 5, h.cell 6, h.cell 7, h.cell 8, h.cell 9, h.cell 10, h.cell 11, h.cell 12, h.cell 13, h.cell 14⟩
theorem ask_ex (d : WorldD) : ∃ x, AskAns d x := by
  obtain ⟨x, hx⟩ := world_ex d
  by_cases h : x = 0
  · subst h
    cases hd : d.down with
    | true => exact ⟨9, .inr ⟨hx, .inl ⟨hd, rfl⟩⟩⟩
    | false => exact ⟨0, .inr ⟨hx, .inr ⟨hd, rfl⟩⟩⟩
  · exact ⟨x, .inl ⟨h, hx⟩⟩
theorem read_ex (d : WorldD) (g k r : Int) : ∃ q, ReadAns d g k r q := by
  obtain ⟨x, hx⟩ := ask_ex d
  by_cases h : x = 0
  · subst h
    by_cases h1 : PlaceP d.shape g k r
    · by_cases h2 : HasP d.on.1 d.on.2 g
      · cases h3 : (drvAt d g k).wiped with
        | true => exact ⟨_, .inr ⟨hx, .inr ⟨h1, .inr ⟨h2, .inl ⟨h3, rfl⟩⟩⟩⟩⟩
        | false => exact ⟨_, .inr ⟨hx, .inr ⟨h1, .inr ⟨h2, .inr ⟨h3, rfl⟩⟩⟩⟩⟩
      · exact ⟨_, .inr ⟨hx, .inr ⟨h1, .inl ⟨h2, rfl⟩⟩⟩⟩
    · exact ⟨_, .inr ⟨hx, .inl ⟨h1, rfl⟩⟩⟩
  · exact ⟨_, .inl ⟨x, h, hx, rfl⟩⟩
theorem read_det {d : WorldD} {g k r : Int} {q : BlockResultD} {w : World} {f : Nat} {args : Array Value} (hq : ReadAns d g k r q) (h : Calls Tryz.prog f args w (BResPost (ReadAns d g k r) w)) : Calls Tryz.prog f args w fun e w' => ∃ cs, e = .returned (.agg cs.toArray) ∧ OwnT layBlockResult w' w.heap.size w'.heap.size q cs ∧ Below w.heap.size w w' :=
  h.mono fun e w' ⟨d', cs, h1, h2, h3, h4⟩ => ⟨cs, h1, by rw [hq.one h2]; exact h3, h4⟩
theorem read_cv {d : WorldD} {g k r : Int} {q : BlockResultD} (hq : ReadAns d g k r q) (hsz : szWorldD d ≤ 1048576) : cvBlockResultD q ≤ 1048576 := by
  rcases hq with ⟨x, _, _, rfl⟩ | ⟨h0, h⟩
  · exact Nat.zero_le _
  rcases h with ⟨_, rfl⟩ | ⟨hp, h⟩
  · exact Nat.zero_le _
  rcases h with ⟨_, rfl⟩ | ⟨_, h⟩
  · exact Nat.zero_le _
  rcases h with ⟨_, rfl⟩ | ⟨_, rfl⟩
  · exact Nat.zero_le _
  · obtain ⟨hA, hB, hC⟩ := hp
    have hf := (ask_ok h0).form.1
    unfold InP at hA hB hC
    have hG : g.toNat < d.groups.1 := by have := hf.1; omega
    have hK : k.toNat < (d.groups.2 g.toNat).1 := by have := (hf.2 _ hG).1; omega
    have hD := (hf.2 _ hG).2 _ hK
    have hR : r.toNat < ((d.groups.2 g.toNat).2 k.toNat).blocks.1 := by have := hD.1; omega
    have h1 : szSl (szSl szDriveD) d.groups ≤ 1048576 := by unfold szWorldD at hsz; omega
    have h2 : szSl szDriveD (d.groups.2 g.toNat) ≤ 1048576 := szSl_at h1 hG
    have h3 : szDriveD ((d.groups.2 g.toNat).2 k.toNat) ≤ 1048576 := szSl_at h2 hK
    exact szSl_at (s := szBlockD) (p := ((d.groups.2 g.toNat).2 k.toNat).blocks) h3 hR
theorem bres3 {w : World} {hi : Nat} {d : BlockResultD} {cs : List Value} (h : layBlockResult.rd w hi d cs) : ∃ v0 v1 vp vl vq, cs = [.int .i64 v0, .int .i64 v1, .slice vp vl vq] := by
  obtain ⟨p1, pc1, rfl, -⟩ := BlockResult_rd h
  exact ⟨_, _, _, _, _, rfl⟩
theorem size_BR : (Tryz.prog.info? 41).map (·.size) = some 3 := by kernel_rfl
set_option maxHeartbeats 16000000 in
set_option maxRecDepth 20000 in
theorem fnExactReadBlock_walk (d : WorldD) (cs : List Value) (i0 : Int) (i1 : Int) (i2 : Int) (w : World) (rd0 : layWorld.rd w w.heap.size d cs) (hi0 : -9223372036854775808 ≤ i0 ∧ i0 ≤ 9223372036854775807) (hi1 : -9223372036854775808 ≤ i1 ∧ i1 ≤ 9223372036854775807) (hi2 : -9223372036854775808 ≤ i2 ∧ i2 ≤ 9223372036854775807) :
    Calls Tryz.prog 7 #[.agg cs.toArray, .int .i64 i0, .int .i64 i1, .int .i64 i2] w fun e w' => e = .returned (.bool true) ∧ Below w.heap.size w w' := by
  obtain ⟨v0, v1, v2, v3, v4, v5, v6, v7, v8, vp0, vl0, vq0, vp1, vl1, vq1, vp2, vl2, vq2, v9, v10, vb, rfl⟩ := world15 rd0
  have HR : Hid (layWorld.rd w w.heap.size d [.int .i64 v0, .int .i64 v1, .int .i64 v2, .int .i64 v3, .int .i64 v4, .int .i64 v5, .int .i64 v6, .int .i64 v7, .int .i64 v8, .slice vp0 vl0 vq0, .slice vp1 vl1 vq1, .slice vp2 vl2 vq2, .int .i64 v9, .int .i64 v10, .bool vb]) := rd0
  clear rd0 hi0 hi1 hi2
  have T0 := one_new w #[.int .i64 v0, .int .i64 v1, .int .i64 v2, .int .i64 v3, .int .i64 v4, .int .i64 v5, .int .i64 v6, .int .i64 v7, .int .i64 v8, .slice vp0 vl0 vq0, .slice vp1 vl1 vq1, .slice vp2 vl2 vq2, .int .i64 v9, .int .i64 v10, .bool vb] 55
  go_enter Tryz.func7, Tryz.ntmps7
  go_wp2_with (refine wp_loadBox 55 (.tmp 4) rfl rfl (w.heap.size) rfl (cs := [.int .i64 v0, .int .i64 v1, .int .i64 v2, .int .i64 v3, .int .i64 v4, .int .i64 v5, .int .i64 v6, .int .i64 v7, .int .i64 v8, .slice vp0 vl0 vq0, .slice vp1 vl1 vq1, .slice vp2 vl2 vq2, .int .i64 v9, .int .i64 v10, .bool vb]) T0.b1 Tryz.underlying55 size_LW rfl ?_)
  refine (szWorld_is _ d w.heap.size 1048576 _ (layWorld.rd_below HR.out T0.bel (Nat.le_refl _)) T0.bel.size (by omega)).mono ?_
  rintro e w1 ⟨x, rfl, hx, b1⟩
  have T1 := T0.call b1
  have HT1 : Hid (One w w1 #[.int .i64 v0, .int .i64 v1, .int .i64 v2, .int .i64 v3, .int .i64 v4, .int .i64 v5, .int .i64 v6, .int .i64 v7, .int .i64 v8, .slice vp0 vl0 vq0, .slice vp1 vl1 vq1, .slice vp2 vl2 vq2, .int .i64 v9, .int .i64 v10, .bool vb] 55) := T1
  clear b1 T0
  rcases hx with rfl | ⟨hsz, hx⟩
  · clear T1
    go_wp2
    go_ret
    exact ⟨rfl, HT1.out.bel⟩
  have hx0 : ¬ x < 0 := by omega
  clear hx
  obtain ⟨q, hq⟩ := read_ex d i0 i1 i2
  obtain ⟨N, hN⟩ : ∃ N, N = 1 + cvBlockResultD q := ⟨_, rfl⟩
  have hj : 1 + cvBlockResultD q ≤ 100000000 := by have := read_cv hq hsz; omega
  obtain ⟨M, hM⟩ : ∃ M, M = 1 + cvWorldD d := ⟨_, rfl⟩
  have hk : 1 + cvWorldD d ≤ 100000000 := by have := cvWorld_le d; omega
  have CT : ∀ w', Below w1.heap.size w1 w' → Calls Tryz.prog 30 #[.agg #[.int .i64 v0, .int .i64 v1, .int .i64 v2, .int .i64 v3, .int .i64 v4, .int .i64 v5, .int .i64 v6, .int .i64 v7, .int .i64 v8, .slice vp0 vl0 vq0, .slice vp1 vl1 vq1, .slice vp2 vl2 vq2, .int .i64 v9, .int .i64 v10, .bool vb]] w' fun e w'' => ∃ cs', e = .returned (.agg cs'.toArray) ∧ OwnT layWorld w'' w'.heap.size w''.heap.size d cs' ∧ Below w'.heap.size w' w'' := fun w' hb =>
    toWorld_is _ d w.heap.size w' (layWorld.rd_below (layWorld.rd_below HR.out HT1.out.bel (Nat.le_refl _)) hb HT1.out.bel.size) (Nat.le_trans HT1.out.bel.size hb.size) hsz
  have CS := fun (cs' : List Value) (hi : Nat) (w' : World) (h1 : layWorld.rd w' hi d cs') (h2 : hi ≤ w'.heap.size) => read_det hq (specRead_any d i0 i1 i2 cs' hi w' h1 h2 hsz)
  have CI := fun (cs' : List Value) (hi : Nat) (w' : World) (h1 : layWorld.rd w' hi d cs') (h2 : hi ≤ w'.heap.size) => read_det hq (implRead_any d i0 i1 i2 cs' hi w' h1 h2 hsz)
  have CE := fun c1 c2 h1 h2 w' => eqBlockResult_is c1 c2 q h1 h2 w'
  have CW := fun c1 c2 h1 h2 w' => eqWorld_is c1 c2 d h1 h2 w'
  have CM := fun {w' : World} {lo hi : Nat} {cs : List Value} (h : OwnT layBlockResult w' lo hi q cs) => mark_T markBlockResult_is h 1 hj
  have CK := fun {w' : World} {lo hi : Nat} {cs : List Value} (h : OwnT layWorld w' lo hi d cs) => mark_T markWorld_is h 1 hk
  have CH := fun (cs : List Value) (hi : Nat) (w' : World) (h : layBlockResult.rd w' hi (mkvBlockResultD 1 q) cs) (hh : hi ≤ w'.heap.size) => heldBlockResult_is cs q hi 1 w' h hh hj
  rw [← hN] at CM CH
  rw [← hM] at CK
  clear hN hM hj hk hq hsz
  go_wp2_with (refine wp_loadBox 55 (.tmp 4) rfl rfl (w.heap.size) rfl (cs := [.int .i64 v0, .int .i64 v1, .int .i64 v2, .int .i64 v3, .int .i64 v4, .int .i64 v5, .int .i64 v6, .int .i64 v7, .int .i64 v8, .slice vp0 vl0 vq0, .slice vp1 vl1 vq1, .slice vp2 vl2 vq2, .int .i64 v9, .int .i64 v10, .bool vb]) T1.b1 Tryz.underlying55 size_LW rfl ?_)
  refine (CT _ (Below.refl _ _)).mono ?_
  rintro e w2 ⟨c2, rfl, o2, b2⟩
  have z1 : w.heap.size < w1.heap.size := T1.b1.lt
  clear T1
  go_wp2_with fail
  refine (CS _ _ _ o2.rd (Nat.le_refl _)).mono ?_
  rintro e w3 ⟨cS, rfl, oS, b3⟩
  obtain ⟨s0, s1, sp, sl, sq, rfl⟩ := bres3 oS.rd
  have z2 : w1.heap.size ≤ w2.heap.size := b2.size
  have z3 : w2.heap.size ≤ w3.heap.size := b3.size
  have B3 : Below w1.heap.size w1 w3 := b2.trans (b3.mono b2.size)
  clear o2 b2 b3
  go_upto_region 6 with (refine wp_allocStore 41 10 (.tmp 27) [.int .i64 s0, .int .i64 s1, .slice sp sl sq] _ 3 rfl rfl rfl rfl rfl rfl rfl rfl info_BR rfl rfl oS.one ?_)
  have bA : Below w3.heap.size w3 (w3.alloc (.cells #[.int .i64 s0, .int .i64 s1, .slice sp sl sq] 41)) := (Below.refl _ _).alloc (Nat.le_refl _) _
  have S4 : Box (w3.alloc (.cells #[.int .i64 s0, .int .i64 s1, .slice sp sl sq] 41)) w3.heap.size #[.int .i64 s0, .int .i64 s1, .slice sp sl sq] 41 := box_new _ _ _
  obtain ⟨W4, hW4⟩ : ∃ x, x = w3.alloc (.cells #[.int .i64 s0, .int .i64 s1, .slice sp sl sq] 41) := ⟨_, rfl⟩
  rw [← hW4] at bA S4 ⊢
  have B4 := B3.trans (bA.mono (by omega))
  have P4 := HT1.out.call B4
  have OS4 := oS.call bA
  have z4 : w3.heap.size < W4.heap.size := S4.lt
  clear bA hW4 oS B3
  go_wp2_with (refine wp_loadBox 55 (.tmp 4) rfl rfl (w.heap.size) rfl (cs := [.int .i64 v0, .int .i64 v1, .int .i64 v2, .int .i64 v3, .int .i64 v4, .int .i64 v5, .int .i64 v6, .int .i64 v7, .int .i64 v8, .slice vp0 vl0 vq0, .slice vp1 vl1 vq1, .slice vp2 vl2 vq2, .int .i64 v9, .int .i64 v10, .bool vb]) P4.b1 Tryz.underlying55 size_LW rfl ?_)
  refine (CT _ B4).mono ?_
  rintro e w5 ⟨cX, rfl, oX, b5⟩
  obtain ⟨x0, x1, x2, x3, x4, x5, x6, x7, x8, xp0, xl0, xq0, xp1, xl1, xq1, xp2, xl2, xq2, x9, x10, xb, rfl⟩ := world15O oX
  have z5 : W4.heap.size ≤ w5.heap.size := b5.size
  have B5 := B4.trans (b5.mono (by omega))
  have S5 := S4.call b5
  have OS5 := OS4.call b5
  clear P4 b5 B4 S4 OS4
  go_upto_region 7 with (refine wp_allocStore 30 11 (.tmp 29) [.int .i64 x0, .int .i64 x1, .int .i64 x2, .int .i64 x3, .int .i64 x4, .int .i64 x5, .int .i64 x6, .int .i64 x7, .int .i64 x8, .slice xp0 xl0 xq0, .slice xp1 xl1 xq1, .slice xp2 xl2 xq2, .int .i64 x9, .int .i64 x10, .bool xb] _ 15 rfl rfl rfl rfl rfl rfl rfl rfl info_W rfl rfl oX.one ?_)
  have bA : Below w5.heap.size w5 (w5.alloc (.cells #[.int .i64 x0, .int .i64 x1, .int .i64 x2, .int .i64 x3, .int .i64 x4, .int .i64 x5, .int .i64 x6, .int .i64 x7, .int .i64 x8, .slice xp0 xl0 xq0, .slice xp1 xl1 xq1, .slice xp2 xl2 xq2, .int .i64 x9, .int .i64 x10, .bool xb] 30)) := (Below.refl _ _).alloc (Nat.le_refl _) _
  have X6 : Box (w5.alloc (.cells #[.int .i64 x0, .int .i64 x1, .int .i64 x2, .int .i64 x3, .int .i64 x4, .int .i64 x5, .int .i64 x6, .int .i64 x7, .int .i64 x8, .slice xp0 xl0 xq0, .slice xp1 xl1 xq1, .slice xp2 xl2 xq2, .int .i64 x9, .int .i64 x10, .bool xb] 30)) w5.heap.size #[.int .i64 x0, .int .i64 x1, .int .i64 x2, .int .i64 x3, .int .i64 x4, .int .i64 x5, .int .i64 x6, .int .i64 x7, .int .i64 x8, .slice xp0 xl0 xq0, .slice xp1 xl1 xq1, .slice xp2 xl2 xq2, .int .i64 x9, .int .i64 x10, .bool xb] 30 := box_new _ _ _
  obtain ⟨W6, hW6⟩ : ∃ x, x = w5.alloc (.cells #[.int .i64 x0, .int .i64 x1, .int .i64 x2, .int .i64 x3, .int .i64 x4, .int .i64 x5, .int .i64 x6, .int .i64 x7, .int .i64 x8, .slice xp0 xl0 xq0, .slice xp1 xl1 xq1, .slice xp2 xl2 xq2, .int .i64 x9, .int .i64 x10, .bool xb] 30) := ⟨_, rfl⟩
  rw [← hW6] at bA X6 ⊢
  have B6 := B5.trans (bA.mono (by omega))
  have S6 := S5.call bA
  have OS6 := OS5.call bA
  have OX6 := oX.call bA
  have z6 : w5.heap.size < W6.heap.size := X6.lt
  clear bA hW6 oX B5 S5 OS5
  go_wp2_with (refine wp_loadBox 30 (.tmp 11) rfl rfl (w5.heap.size) rfl (cs := [.int .i64 x0, .int .i64 x1, .int .i64 x2, .int .i64 x3, .int .i64 x4, .int .i64 x5, .int .i64 x6, .int .i64 x7, .int .i64 x8, .slice xp0 xl0 xq0, .slice xp1 xl1 xq1, .slice xp2 xl2 xq2, .int .i64 x9, .int .i64 x10, .bool xb]) X6 Tryz.underlying30 size_W rfl ?_)
  refine (CI _ _ _ OX6.rd (by omega)).mono ?_
  rintro e w7 ⟨cG, rfl, oG, b7⟩
  obtain ⟨g0, g1, gp, gl, gq, rfl⟩ := bres3 oG.rd
  have z7 : W6.heap.size ≤ w7.heap.size := b7.size
  have B7 := B6.trans (b7.mono (by omega))
  have S7 := S6.call b7
  have OS7 := OS6.call b7
  have X7 := X6.call b7
  have OX7 := OX6.call b7
  clear b7 B6 S6 OS6 X6 OX6
  go_upto_region 8 with (refine wp_allocStore 41 12 (.tmp 34) [.int .i64 g0, .int .i64 g1, .slice gp gl gq] _ 3 rfl rfl rfl rfl rfl rfl rfl rfl info_BR rfl rfl oG.one ?_)
  have bA : Below w7.heap.size w7 (w7.alloc (.cells #[.int .i64 g0, .int .i64 g1, .slice gp gl gq] 41)) := (Below.refl _ _).alloc (Nat.le_refl _) _
  have G8 : Box (w7.alloc (.cells #[.int .i64 g0, .int .i64 g1, .slice gp gl gq] 41)) w7.heap.size #[.int .i64 g0, .int .i64 g1, .slice gp gl gq] 41 := box_new _ _ _
  obtain ⟨W8, hW8⟩ : ∃ x, x = w7.alloc (.cells #[.int .i64 g0, .int .i64 g1, .slice gp gl gq] 41) := ⟨_, rfl⟩
  rw [← hW8] at bA G8 ⊢
  have B8 := B7.trans (bA.mono (by omega))
  have S8 := S7.call bA
  have OS8 := OS7.call bA
  have X8 := X7.call bA
  have OX8 := OX7.call bA
  have OG8 := oG.call bA
  have z8 : w7.heap.size < W8.heap.size := G8.lt
  clear bA hW8 oG B7 S7 OS7 X7 OX7
  go_wp2_with (first | (refine wp_loadBox 41 (.tmp 12) rfl rfl (w7.heap.size) rfl (cs := [.int .i64 g0, .int .i64 g1, .slice gp gl gq]) G8 Tryz.underlying41 size_BR rfl ?_) | (refine wp_loadBox 41 (.tmp 10) rfl rfl (w3.heap.size) rfl (cs := [.int .i64 s0, .int .i64 s1, .slice sp sl sq]) S8 Tryz.underlying41 size_BR rfl ?_))
  refine (CE _ _ _ _ _ OG8.rd OS8.rd (by omega) (by omega)).mono ?_
  rintro e w9 ⟨rfl, b9⟩
  have z9 : W8.heap.size ≤ w9.heap.size := b9.size
  have B9 := B8.trans (b9.mono (by omega))
  have S9 : Hid (Box w9 w3.heap.size #[.int .i64 s0, .int .i64 s1, .slice sp sl sq] 41) := S8.call b9
  have OS9 : Hid (OwnT layBlockResult w9 w2.heap.size w3.heap.size q [.int .i64 s0, .int .i64 s1, .slice sp sl sq]) := OS8.call b9
  have X9 : Hid (Box w9 w5.heap.size #[.int .i64 x0, .int .i64 x1, .int .i64 x2, .int .i64 x3, .int .i64 x4, .int .i64 x5, .int .i64 x6, .int .i64 x7, .int .i64 x8, .slice xp0 xl0 xq0, .slice xp1 xl1 xq1, .slice xp2 xl2 xq2, .int .i64 x9, .int .i64 x10, .bool xb] 30) := X8.call b9
  have OX9 : Hid (OwnT layWorld w9 W4.heap.size w5.heap.size d [.int .i64 x0, .int .i64 x1, .int .i64 x2, .int .i64 x3, .int .i64 x4, .int .i64 x5, .int .i64 x6, .int .i64 x7, .int .i64 x8, .slice xp0 xl0 xq0, .slice xp1 xl1 xq1, .slice xp2 xl2 xq2, .int .i64 x9, .int .i64 x10, .bool xb]) := OX8.call b9
  have G9 : Hid (Box w9 w7.heap.size #[.int .i64 g0, .int .i64 g1, .slice gp gl gq] 41) := G8.call b9
  have OG9 : Hid (OwnT layBlockResult w9 W6.heap.size w7.heap.size q [.int .i64 g0, .int .i64 g1, .slice gp gl gq]) := OG8.call b9
  have HB9 : Hid (Below w1.heap.size w1 w9) := B9
  have P9 : Hid (One w w9 #[.int .i64 v0, .int .i64 v1, .int .i64 v2, .int .i64 v3, .int .i64 v4, .int .i64 v5, .int .i64 v6, .int .i64 v7, .int .i64 v8, .slice vp0 vl0 vq0, .slice vp1 vl1 vq1, .slice vp2 vl2 vq2, .int .i64 v9, .int .i64 v10, .bool vb] 55) := HT1.out.call B9
  have u_0 : w9.cell? ⟨w5.heap.size, 0, none⟩ = some (.int .i64 x0) := X9.out.cell 0
  have u_1 : w9.cell? ⟨w5.heap.size, 1, none⟩ = some (.int .i64 x1) := X9.out.cell 1
  have u_2 : w9.cell? ⟨w5.heap.size, 2, none⟩ = some (.int .i64 x2) := X9.out.cell 2
  have u_3 : w9.cell? ⟨w5.heap.size, 3, none⟩ = some (.int .i64 x3) := X9.out.cell 3
  have u_4 : w9.cell? ⟨w5.heap.size, 4, none⟩ = some (.int .i64 x4) := X9.out.cell 4
  have u_5 : w9.cell? ⟨w5.heap.size, 5, none⟩ = some (.int .i64 x5) := X9.out.cell 5
  have u_6 : w9.cell? ⟨w5.heap.size, 6, none⟩ = some (.int .i64 x6) := X9.out.cell 6
  have u_7 : w9.cell? ⟨w5.heap.size, 7, none⟩ = some (.int .i64 x7) := X9.out.cell 7
  have u_8 : w9.cell? ⟨w5.heap.size, 8, none⟩ = some (.int .i64 x8) := X9.out.cell 8
  have u_9 : w9.cell? ⟨w5.heap.size, 9, none⟩ = some (.slice xp0 xl0 xq0) := X9.out.cell 9
  have u_10 : w9.cell? ⟨w5.heap.size, 10, none⟩ = some (.slice xp1 xl1 xq1) := X9.out.cell 10
  have u_11 : w9.cell? ⟨w5.heap.size, 11, none⟩ = some (.slice xp2 xl2 xq2) := X9.out.cell 11
  have u_12 : w9.cell? ⟨w5.heap.size, 12, none⟩ = some (.int .i64 x9) := X9.out.cell 12
  have u_13 : w9.cell? ⟨w5.heap.size, 13, none⟩ = some (.int .i64 x10) := X9.out.cell 13
  have u_14 : w9.cell? ⟨w5.heap.size, 14, none⟩ = some (.bool xb) := X9.out.cell 14
  have y_0 : w9.cell? ⟨w.heap.size, 0, none⟩ = some (.int .i64 v0) := P9.out.b1.cell 0
  have y_1 : w9.cell? ⟨w.heap.size, 1, none⟩ = some (.int .i64 v1) := P9.out.b1.cell 1
  have y_2 : w9.cell? ⟨w.heap.size, 2, none⟩ = some (.int .i64 v2) := P9.out.b1.cell 2
  have y_3 : w9.cell? ⟨w.heap.size, 3, none⟩ = some (.int .i64 v3) := P9.out.b1.cell 3
  have y_4 : w9.cell? ⟨w.heap.size, 4, none⟩ = some (.int .i64 v4) := P9.out.b1.cell 4
  have y_5 : w9.cell? ⟨w.heap.size, 5, none⟩ = some (.int .i64 v5) := P9.out.b1.cell 5
  have y_6 : w9.cell? ⟨w.heap.size, 6, none⟩ = some (.int .i64 v6) := P9.out.b1.cell 6
  have y_7 : w9.cell? ⟨w.heap.size, 7, none⟩ = some (.int .i64 v7) := P9.out.b1.cell 7
  have y_8 : w9.cell? ⟨w.heap.size, 8, none⟩ = some (.int .i64 v8) := P9.out.b1.cell 8
  have y_9 : w9.cell? ⟨w.heap.size, 9, none⟩ = some (.slice vp0 vl0 vq0) := P9.out.b1.cell 9
  have y_10 : w9.cell? ⟨w.heap.size, 10, none⟩ = some (.slice vp1 vl1 vq1) := P9.out.b1.cell 10
  have y_11 : w9.cell? ⟨w.heap.size, 11, none⟩ = some (.slice vp2 vl2 vq2) := P9.out.b1.cell 11
  have y_12 : w9.cell? ⟨w.heap.size, 12, none⟩ = some (.int .i64 v9) := P9.out.b1.cell 12
  have y_13 : w9.cell? ⟨w.heap.size, 13, none⟩ = some (.int .i64 v10) := P9.out.b1.cell 13
  have y_14 : w9.cell? ⟨w.heap.size, 14, none⟩ = some (.bool vb) := P9.out.b1.cell 14
  clear b9 B8 S8 OS8 X8 OX8 G8 OG8 B9
  go_upto_region 10 with fail
  go_cut [43] (fun v wx => v = .bool false ∧ Below w9.heap.size w9 wx)
  case first =>
    go_region_with (first | (go_at_call 30; refine (CT _ (HB9.out.trans ((below_drewN (Below.refl _ _) 1).mono HB9.out.size))).mono ?_; rintro ee wb ⟨cs', rfl, oR, bb⟩; have bR : Below w9.heap.size w9 wb := (below_drewN (Below.refl _ _) 1).trans bb; obtain ⟨qb0, qb1, qb2, qb3, qb4, qb5, qb6, qb7, qb8, qb9, qb10, qb11, qb12, qb13, qb14⟩ := fifteen (X9.out.call bR)) | (go_at_call 32; refine (CW _ _ _ _ _ (OX9.out.call bR).rd oR.rd (Nat.le_trans (by omega) bR.size) (Nat.le_refl _)).mono ?_; rintro ee wc' ⟨rfl, bc⟩; have bC : Below w9.heap.size w9 wc' := bR.trans (bc.mono bR.size)))
    all_goals
      go_wp2
      go_meet
      exact ⟨rfl, bC⟩
  case rest =>
    obtain ⟨rfl, b10⟩ := hcut
    obtain ⟨w10, rfl⟩ : ∃ x, x = wc := ⟨_, rfl⟩
    clear u_0 u_1 u_2 u_3 u_4 u_5 u_6 u_7 u_8 u_9 u_10 u_11 u_12 u_13 u_14 y_0 y_1 y_2 y_3 y_4 y_5 y_6 y_7 y_8 y_9 y_10 y_11 y_12 y_13 y_14
    have z10 : w9.heap.size ≤ w10.heap.size := b10.size
    have B10 := HB9.out.trans (b10.mono (by omega))
    have S10 := S9.out.call b10
    have OS10 := OS9.out.call b10
    have X10 := X9.out.call b10
    have OX10 := OX9.out.call b10
    have G10 := G9.out.call b10
    have OG10 := OG9.out.call b10
    clear b10 HB9 S9 OS9 X9 OX9 G9 OG9 P9
    have hm0 : ¬ (M : Int) < 0 := by omega
    go_wp2_with (refine wp_loadBox 30 (.tmp 11) rfl rfl (w5.heap.size) rfl (cs := [.int .i64 x0, .int .i64 x1, .int .i64 x2, .int .i64 x3, .int .i64 x4, .int .i64 x5, .int .i64 x6, .int .i64 x7, .int .i64 x8, .slice xp0 xl0 xq0, .slice xp1 xl1 xq1, .slice xp2 xl2 xq2, .int .i64 x9, .int .i64 x10, .bool xb]) X10 Tryz.underlying30 size_W rfl ?_)
    refine (CK OX10).mono ?_
    rintro e w11 ⟨rfl, OX11, c11⟩
    have z11 : w10.heap.size ≤ w11.heap.size := c11.size
    have B11 := B10.trans (c11.bel (B := w1.heap.size) (by omega) (by omega))
    have S11 := S10.chg c11 (.inl (by omega))
    have OS11 := OS10.chg c11 (.inl (by omega))
    have G11 := G10.chg c11 (.inr (by omega))
    have OG11 := OG10.chg c11 (.inr (by omega))
    have u_0 : w11.cell? ⟨w7.heap.size, 0, none⟩ = some (.int .i64 g0) := G11.cell 0
    have u_1 : w11.cell? ⟨w7.heap.size, 1, none⟩ = some (.int .i64 g1) := G11.cell 1
    have u_2 : w11.cell? ⟨w7.heap.size, 2, none⟩ = some (.slice gp gl gq) := G11.cell 2
    have y_0 : w11.cell? ⟨w3.heap.size, 0, none⟩ = some (.int .i64 s0) := S11.cell 0
    have y_1 : w11.cell? ⟨w3.heap.size, 1, none⟩ = some (.int .i64 s1) := S11.cell 1
    have y_2 : w11.cell? ⟨w3.heap.size, 2, none⟩ = some (.slice sp sl sq) := S11.cell 2
    clear OX11 c11 B10 S10 OS10 X10 OX10 G10 OG10
    go_wp2_with fail
    refine (CE _ _ _ _ _ OG11.rd OS11.rd (by omega) (by omega)).mono ?_
    rintro e w12 ⟨rfl, b12⟩
    have z12 : w11.heap.size ≤ w12.heap.size := b12.size
    have B12 := B11.trans (b12.mono (by omega))
    have S12 := S11.call b12
    have OS12 := OS11.call b12
    have G12 := G11.call b12
    have OG12 := OG11.call b12
    clear b12 B11 S11 OS11 G11 OG11 u_0 u_1 u_2 y_0 y_1 y_2
    go_wp2_with (refine wp_loadBox 41 (.tmp 12) rfl rfl (w7.heap.size) rfl (cs := [.int .i64 g0, .int .i64 g1, .slice gp gl gq]) G12 Tryz.underlying41 size_BR rfl ?_)
    refine (CM OG12).mono ?_
    rintro e w13 ⟨rfl, OG13, c13⟩
    have z13 : w12.heap.size ≤ w13.heap.size := c13.size
    have B13 := B12.trans (c13.bel (B := w1.heap.size) (by omega) (by omega))
    have S13 := S12.chg c13 (.inl (by omega))
    have OS13 := OS12.chg c13 (.inl (by omega))
    have G13 := G12.chg c13 (.inr (by omega))
    clear c13 B12 S12 OS12 G12 OG12
    go_wp2_with (refine wp_loadBox 41 (.tmp 12) rfl rfl (w7.heap.size) rfl (cs := [.int .i64 g0, .int .i64 g1, .slice gp gl gq]) G13 Tryz.underlying41 size_BR rfl ?_)
    refine (CH _ _ _ OG13.rd (by omega)).mono ?_
    rintro e w14 ⟨rfl, b14⟩
    have z14 : w13.heap.size ≤ w14.heap.size := b14.size
    have B14 := B13.trans (b14.mono (by omega))
    have S14 := S13.call b14
    have OS14 := OS13.call b14
    have G14 := G13.call b14
    have OG14 := OG13.call b14
    have P14 := HT1.out.call B14
    clear b14 B13 S13 OS13 G13 OG13
    have hn0 : ¬ (N : Int) < 0 := by omega
    go_wp2_with (refine wp_loadBox 55 (.tmp 4) rfl rfl (w.heap.size) rfl (cs := [.int .i64 v0, .int .i64 v1, .int .i64 v2, .int .i64 v3, .int .i64 v4, .int .i64 v5, .int .i64 v6, .int .i64 v7, .int .i64 v8, .slice vp0 vl0 vq0, .slice vp1 vl1 vq1, .slice vp2 vl2 vq2, .int .i64 v9, .int .i64 v10, .bool vb]) P14.b1 Tryz.underlying55 size_LW rfl ?_)
    refine (CT _ B14).mono ?_
    rintro e w15 ⟨c15, rfl, o15, b15⟩
    go_wp2_with fail
    refine (CI _ _ _ o15.rd (Nat.le_refl _)).mono ?_
    rintro e w16 ⟨cH, rfl, oH, b16⟩
    obtain ⟨h0, h1, hp, hl, hq, rfl⟩ := bres3 oH.rd
    have z15 : w14.heap.size ≤ w15.heap.size := b15.size
    have z16 : w15.heap.size ≤ w16.heap.size := b16.size
    have B16 := (B14.trans (b15.mono (by omega))).trans (b16.mono (by omega))
    have S16 := (S14.call b15).call b16
    have OS16 := (OS14.call b15).call b16
    have G16 := (G14.call b15).call b16
    have OG16 := (OG14.call b15).call b16
    clear P14 o15 b15 b16 B14 S14 OS14 G14 OG14
    go_upto_region 25 with (refine wp_allocStore 41 16 (.tmp 71) [.int .i64 h0, .int .i64 h1, .slice hp hl hq] _ 3 rfl rfl rfl rfl rfl rfl rfl rfl info_BR rfl rfl oH.one ?_)
    have bA : Below w16.heap.size w16 (w16.alloc (.cells #[.int .i64 h0, .int .i64 h1, .slice hp hl hq] 41)) := (Below.refl _ _).alloc (Nat.le_refl _) _
    have H17 : Box (w16.alloc (.cells #[.int .i64 h0, .int .i64 h1, .slice hp hl hq] 41)) w16.heap.size #[.int .i64 h0, .int .i64 h1, .slice hp hl hq] 41 := box_new _ _ _
    obtain ⟨W17, hW17⟩ : ∃ x, x = w16.alloc (.cells #[.int .i64 h0, .int .i64 h1, .slice hp hl hq] 41) := ⟨_, rfl⟩
    rw [← hW17] at bA H17 ⊢
    have B17 := B16.trans (bA.mono (by omega))
    have S17 := S16.call bA
    have OS17 := OS16.call bA
    have G17 := G16.call bA
    have OG17 := OG16.call bA
    have OH17 := oH.call bA
    have z17 : w16.heap.size < W17.heap.size := H17.lt
    clear bA hW17 oH B16 S16 OS16 G16 OG16
    go_wp2_with (first | (refine wp_loadBox 41 (.tmp 16) rfl rfl (w16.heap.size) rfl (cs := [.int .i64 h0, .int .i64 h1, .slice hp hl hq]) H17 Tryz.underlying41 size_BR rfl ?_) | (refine wp_loadBox 41 (.tmp 10) rfl rfl (w3.heap.size) rfl (cs := [.int .i64 s0, .int .i64 s1, .slice sp sl sq]) S17 Tryz.underlying41 size_BR rfl ?_))
    refine (CE _ _ _ _ _ OH17.rd OS17.rd (by omega) (by omega)).mono ?_
    rintro e w18 ⟨rfl, b18⟩
    have z18 : W17.heap.size ≤ w18.heap.size := b18.size
    have B18 := B17.trans (b18.mono (by omega))
    have G18 := G17.call b18
    have OG18 := OG17.call b18
    clear b18 B17 S17 OS17 G17 OG17 OH17 H17
    go_wp2_with (refine wp_loadBox 41 (.tmp 12) rfl rfl (w7.heap.size) rfl (cs := [.int .i64 g0, .int .i64 g1, .slice gp gl gq]) G18 Tryz.underlying41 size_BR rfl ?_)
    refine (CH _ _ _ OG18.rd (by omega)).mono ?_
    rintro e w19 ⟨rfl, b19⟩
    have HB : Hid (Below w.heap.size w w19) := (HT1.out.call (B18.trans (b19.mono (by omega)))).bel
    clear b19 B18 G18 OG18
    go_wp2
    go_ret
    exact ⟨rfl, HB.out⟩

set_option maxRecDepth 100000 in
theorem fnExactReadBlock_lifted (os : Os) (started : os.Started) (H : Type) (enc : TypeId × Value → H) :
    ReturnsInHanded {} Tryz.checked os 7 .any (Rows.fnExactReadBlockSpec.pre6 enc Tryz.prog Tryz.f7 Rows.fnExactReadBlockRow.domain false) (Rows.fnExactReadBlockSpec.post enc Tryz.prog Tryz.f7 false true false false) := by
  refine returnsInHanded_of_change (C := Tryz.checked) frame_own started (by kernel_rfl) Tryz.func7
    (ChangeSpec.witness6 (enc := enc) (C := Tryz.checked) false ⟨#[], #[.agg #[.int .i64 0, .int .i64 0, .int .i64 0, .int .i64 0, .int .i64 0, .int .i64 0, .int .i64 0, .int .i64 0, .int .i64 0, .slice none 0 0, .slice none 0 0, .slice none 0 0, .int .i64 0, .int .i64 0, .bool false], .int .i64 0, .int .i64 0, .int .i64 0], []⟩ 8 (by kernel_rfl) (by kernel_rfl) (by kernel_rfl) (by kernel_rfl)) ?_
  intro W base args ds gs before hval0 hW hcnd _
  have hval : ∀ (j : Nat) t v, Tryz.f7.params[j]? = some t → args[j]? = some v → Value.okWide Tryz.prog W .any base t v := hval0
  have hW' := hW
  obtain ⟨p, q, hA0, hV, rfl, hfz, hnd⟩ := hW
  have hA : DataW.TrodAll enc Tryz.prog W 0 (fun _ => true) true Tryz.f7.params.toList args.toList ds p := hA0
  rw [Tryz.params7] at hA hval
  obtain ⟨v0, vs0, d0, ds0, p0, q0, hargs, rfl, rfl, h0, r0⟩ := trodAll_cons hA
  obtain ⟨v1, vs1, d1, ds1, p1, q1, rfl, rfl, rfl, h1, r1⟩ := trodAll_cons r0
  obtain ⟨v2, vs2, d2, ds2, p2, q2, rfl, rfl, rfl, h2, r2⟩ := trodAll_cons r1
  obtain ⟨v3, vs3, d3, ds3, p3, q3, rfl, rfl, rfl, h3, r3⟩ := trodAll_cons r2
  obtain ⟨rfl, rfl, rfl⟩ := trodAll_nil r3
  obtain rfl : args = #[v0, v1, v2, v3] := by cases args; simp_all
  obtain ⟨rfl, rfl⟩ := trodVars_none hV
  have k0 := h0
  have lt0 : ∀ x ∈ p0, x.block < W.heap.size := by obtain ⟨m, hm⟩ := k0; exact DataW.trod_lt m _ _ _ hm
  obtain ⟨cs0, a0, rfl, rd0⟩ := struct_of_trod opensWorld Tryz.underlying55 (hval 0 55 v0 rfl rfl) h0
  obtain ⟨n1, rfl, rfl, rfl, hn1⟩ := open_int Tryz.underlying2 (hval 1 2 v1 rfl rfl) h1
  obtain ⟨n2, rfl, rfl, rfl, hn2⟩ := open_int Tryz.underlying2 (hval 2 2 v2 rfl rfl) h2
  obtain ⟨n3, rfl, rfl, rfl, hn3⟩ := open_int Tryz.underlying2 (hval 3 2 v3 rfl rfl) h3
  clear hA0 hval0
  refine (fnExactReadBlock_walk a0 cs0 n1 n2 n3 W rd0 (bounds_i64 hn1) (bounds_i64 hn2) (bounds_i64 hn3)).mono fun e W' ⟨he, bel⟩ => ?_
  subst he
  exact ⟨_, rfl, _, _, _, [], _, [], hW', trodAll_mk1 (shut_bool Tryz.underlying4 _), (trodAll_cons_mk (Below.trod frame_laid (by kernel_rfl) (of_decide_eq_true (by kernel_rfl)) k0 bel lt0) (trodAll_cons_mk (shut_int Tryz.underlying2 hn1) (trodAll_cons_mk (shut_int Tryz.underlying2 hn2) (trodAll_cons_mk (shut_int Tryz.underlying2 hn3) trodAll_mk0)))), rfl, bel.frame _, fun h => by cases h⟩

end Go.Proofs.YtlppdepihchnkaaGreat

namespace Go.Proofs.YtlppdepihchnkaaGreat
open Go.ChangeShapes Go.WideShapes Go.ChangeAt Go.RowKit F256
set_option maxHeartbeats 8000000 in
theorem fnExactReadBlock_closed : joinedFacts Tryz.pinned.checked.prog 7 Tryz.f7 Rows.fnExactReadBlockSpec Rows.fnExactReadBlockRow = true := by
  unfold joinedFacts
  simp only [Bool.and_eq_true]
  repeat' apply And.intro
  all_goals (as_aux_lemma => kernel_rfl)
set_option maxHeartbeats 8000000 in
theorem fnExactReadBlock_named : Tryz.pinned.checked.prog.funcNamed Rows.fnExactReadBlockRow.func = some 7 := by kernel_rfl
set_option maxHeartbeats 8000000 in
theorem fnExactReadBlock_proved : Rows.FnExactReadBlockSaid :=
  OpenClaim.holds_of_wide 7 Tryz.f7 rfl rfl rfl rfl rfl rfl rfl ⟨rfl, rfl, rfl, rfl, rfl⟩ rfl rfl rfl rfl rfl fnExactReadBlock_named Tryz.func7 fnExactReadBlock_closed
    (of_decide_eq_true (by as_aux_lemma => kernel_rfl)) (by unfold Func.isWrapper; first | (rw [if_pos (by decide +kernel)]; kernel_rfl) | (rw [if_neg (by decide +kernel)]; exact ⟨rfl, rfl⟩))
    (fun os started H enc _ => fnExactReadBlock_lifted os started H enc)
#print axioms fnExactReadBlock_proved
end Go.Proofs.YtlppdepihchnkaaGreat
