/- Walks: worlds compared. -/
import Derived.Test.YtcepcjkfdonclaaZPnewarac
import Derived.Test.YtcepcjkfdonclaaZPnewarab
import Derived.Deep.RegionLaw
import Derived.BigQuiet
import Derived.Deep.QuietTactic
import Derived.StillTailTactics
import Derived.Lib.MinMax
import Derived.Laws.StructEq
set_option linter.unusedVariables false
set_option linter.unusedSimpArgs false
namespace Go.Proofs.Ytcepcjkfdonclaa
open Go.RowKit F256
set_option maxHeartbeats 8000000 in
set_option maxRecDepth 20000 in
theorem eqWorld_is:EqV layWorld 29:=fun c1 c2 d h1 h2 w r1 r2 u1 u2 => by
  obtain ⟨ao1,cap1,ao2,cap2,ao3,cap3,rfl,g1,g2,g3,-⟩:=World_rd r1;obtain ⟨bao1,bcap1,bao2,bcap2,bao3,bcap3,rfl,q1,q2,q3,-⟩:=World_rd r2;clear r1 r2;have G1:Hid (((layDrive.slice 58).slice 55).rd w h1 d.groups [.slice ao1 d.groups.1 cap1]):=g1;have E1:Hid (((layDrive.slice 58).slice 55).rd w h2 d.groups [.slice bao1 d.groups.1 bcap1]):=q1;have G2:Hid (layInts.rd w h1 d.on [.slice ao2 d.on.1 cap2]):=g2;have E2:Hid (layInts.rd w h2 d.on [.slice bao2 d.on.1 bcap2]):=q2;have G3:Hid ((layTape.slice 88).rd w h1 d.tapes [.slice ao3 d.tapes.1 cap3]):=g3;have E3:Hid ((layTape.slice 88).rd w h2 d.tapes [.slice bao3 d.tapes.1 bcap3]):=q3;clear g1 q1 g2 q2 g3 q3
  go_enter Try.func29,Try.ntmps29
  go_wp2_with fail
  have T0:=two_newb w #[.int .i64 (d.shape 0),.int .i64 (d.shape 1),.int .i64 (d.shape 2),.int .i64 (d.shape 3),.int .i64 (d.shape 4),.int .i64 (d.shape 5),.int .i64 (d.shape 6),.int .i64 (d.shape 7),.int .i64 (d.shape 8),.slice ao1 d.groups.1 cap1,.slice ao2 d.on.1 cap2,.slice ao3 d.tapes.1 cap3,.int .i64 d.writes,.int .i64 d.stop,.bool d.down] #[.int .i64 (d.shape 0),.int .i64 (d.shape 1),.int .i64 (d.shape 2),.int .i64 (d.shape 3),.int .i64 (d.shape 4),.int .i64 (d.shape 5),.int .i64 (d.shape 6),.int .i64 (d.shape 7),.int .i64 (d.shape 8),.slice bao1 d.groups.1 bcap1,.slice bao2 d.on.1 bcap2,.slice bao3 d.tapes.1 bcap3,.int .i64 d.writes,.int .i64 d.stop,.bool d.down] 29 29;refine (eqShape_any d.shape _).mono ?_;rintro e w1 ⟨rfl,b1⟩;have T1:Two w w1 #[.int .i64 (d.shape 0),.int .i64 (d.shape 1),.int .i64 (d.shape 2),.int .i64 (d.shape 3),.int .i64 (d.shape 4),.int .i64 (d.shape 5),.int .i64 (d.shape 6),.int .i64 (d.shape 7),.int .i64 (d.shape 8),.slice ao1 d.groups.1 cap1,.slice ao2 d.on.1 cap2,.slice ao3 d.tapes.1 cap3,.int .i64 d.writes,.int .i64 d.stop,.bool d.down] #[.int .i64 (d.shape 0),.int .i64 (d.shape 1),.int .i64 (d.shape 2),.int .i64 (d.shape 3),.int .i64 (d.shape 4),.int .i64 (d.shape 5),.int .i64 (d.shape 6),.int .i64 (d.shape 7),.int .i64 (d.shape 8),.slice bao1 d.groups.1 bcap1,.slice bao2 d.on.1 bcap2,.slice bao3 d.tapes.1 bcap3,.int .i64 d.writes,.int .i64 d.stop,.bool d.down] 29 29:=T0.call b1;clear T0 b1;have x1_9:w1.cell? ⟨w.heap.size,9,none⟩ = some (.slice ao1 d.groups.1 cap1):=T1.b1.cell 9;have y1_9:w1.cell? ⟨w.heap.size + 1,9,none⟩ = some (.slice bao1 d.groups.1 bcap1):=T1.b2.cell 9
  go_wp2_with fail
  refine (eqDriveSS_is _ _ d.groups h1 h2 _ (((layDrive.slice 58).slice 55).rd_below G1.out T1.bel u1) (((layDrive.slice 58).slice 55).rd_below E1.out T1.bel u2) (Nat.le_trans u1 T1.bel.size) (Nat.le_trans u2 T1.bel.size)).mono ?_;rintro e w2 ⟨rfl,b2⟩;have T2:Two w w2 #[.int .i64 (d.shape 0),.int .i64 (d.shape 1),.int .i64 (d.shape 2),.int .i64 (d.shape 3),.int .i64 (d.shape 4),.int .i64 (d.shape 5),.int .i64 (d.shape 6),.int .i64 (d.shape 7),.int .i64 (d.shape 8),.slice ao1 d.groups.1 cap1,.slice ao2 d.on.1 cap2,.slice ao3 d.tapes.1 cap3,.int .i64 d.writes,.int .i64 d.stop,.bool d.down] #[.int .i64 (d.shape 0),.int .i64 (d.shape 1),.int .i64 (d.shape 2),.int .i64 (d.shape 3),.int .i64 (d.shape 4),.int .i64 (d.shape 5),.int .i64 (d.shape 6),.int .i64 (d.shape 7),.int .i64 (d.shape 8),.slice bao1 d.groups.1 bcap1,.slice bao2 d.on.1 bcap2,.slice bao3 d.tapes.1 bcap3,.int .i64 d.writes,.int .i64 d.stop,.bool d.down] 29 29:=T1.call b2;clear T1 b2;have x2_10:w2.cell? ⟨w.heap.size,10,none⟩ = some (.slice ao2 d.on.1 cap2):=T2.b1.cell 10;have y2_10:w2.cell? ⟨w.heap.size + 1,10,none⟩ = some (.slice bao2 d.on.1 bcap2):=T2.b2.cell 10
  go_wp2_with fail
  refine (eqInts_is _ _ d.on h1 h2 _ (layInts.rd_below G2.out T2.bel u1) (layInts.rd_below E2.out T2.bel u2) (Nat.le_trans u1 T2.bel.size) (Nat.le_trans u2 T2.bel.size)).mono ?_;rintro e w3 ⟨rfl,b3⟩;have T3:Two w w3 #[.int .i64 (d.shape 0),.int .i64 (d.shape 1),.int .i64 (d.shape 2),.int .i64 (d.shape 3),.int .i64 (d.shape 4),.int .i64 (d.shape 5),.int .i64 (d.shape 6),.int .i64 (d.shape 7),.int .i64 (d.shape 8),.slice ao1 d.groups.1 cap1,.slice ao2 d.on.1 cap2,.slice ao3 d.tapes.1 cap3,.int .i64 d.writes,.int .i64 d.stop,.bool d.down] #[.int .i64 (d.shape 0),.int .i64 (d.shape 1),.int .i64 (d.shape 2),.int .i64 (d.shape 3),.int .i64 (d.shape 4),.int .i64 (d.shape 5),.int .i64 (d.shape 6),.int .i64 (d.shape 7),.int .i64 (d.shape 8),.slice bao1 d.groups.1 bcap1,.slice bao2 d.on.1 bcap2,.slice bao3 d.tapes.1 bcap3,.int .i64 d.writes,.int .i64 d.stop,.bool d.down] 29 29:=T2.call b3;clear T2 b3;have x3_11:w3.cell? ⟨w.heap.size,11,none⟩ = some (.slice ao3 d.tapes.1 cap3):=T3.b1.cell 11;have y3_11:w3.cell? ⟨w.heap.size + 1,11,none⟩ = some (.slice bao3 d.tapes.1 bcap3):=T3.b2.cell 11
  go_wp2_with fail
  refine (eqTapeS_is _ _ d.tapes h1 h2 _ ((layTape.slice 88).rd_below G3.out T3.bel u1) ((layTape.slice 88).rd_below E3.out T3.bel u2) (Nat.le_trans u1 T3.bel.size) (Nat.le_trans u2 T3.bel.size)).mono ?_;rintro e w4 ⟨rfl,b4⟩;have T4:Two w w4 #[.int .i64 (d.shape 0),.int .i64 (d.shape 1),.int .i64 (d.shape 2),.int .i64 (d.shape 3),.int .i64 (d.shape 4),.int .i64 (d.shape 5),.int .i64 (d.shape 6),.int .i64 (d.shape 7),.int .i64 (d.shape 8),.slice ao1 d.groups.1 cap1,.slice ao2 d.on.1 cap2,.slice ao3 d.tapes.1 cap3,.int .i64 d.writes,.int .i64 d.stop,.bool d.down] #[.int .i64 (d.shape 0),.int .i64 (d.shape 1),.int .i64 (d.shape 2),.int .i64 (d.shape 3),.int .i64 (d.shape 4),.int .i64 (d.shape 5),.int .i64 (d.shape 6),.int .i64 (d.shape 7),.int .i64 (d.shape 8),.slice bao1 d.groups.1 bcap1,.slice bao2 d.on.1 bcap2,.slice bao3 d.tapes.1 bcap3,.int .i64 d.writes,.int .i64 d.stop,.bool d.down] 29 29:=T3.call b4;clear T3 b4;have x4_12:w4.cell? ⟨w.heap.size,12,none⟩ = some (.int .i64 d.writes):=T4.b1.cell 12;have y4_12:w4.cell? ⟨w.heap.size + 1,12,none⟩ = some (.int .i64 d.writes):=T4.b2.cell 12;have x4_13:w4.cell? ⟨w.heap.size,13,none⟩ = some (.int .i64 d.stop):=T4.b1.cell 13;have y4_13:w4.cell? ⟨w.heap.size + 1,13,none⟩ = some (.int .i64 d.stop):=T4.b2.cell 13;have x4_14:w4.cell? ⟨w.heap.size,14,none⟩ = some (.bool d.down):=T4.b1.cell 14;have y4_14:w4.cell? ⟨w.heap.size + 1,14,none⟩ = some (.bool d.down):=T4.b2.cell 14;have B:Hid (Below w.heap.size w w4):=T4.bel;clear T4;go_wp2;go_ret;exact ⟨rfl,B.out⟩
end Go.Proofs.Ytcepcjkfdonclaa
namespace Go.Proofs.Ytcepcjkfdonclaa
open Go.RowKit F256
theorem b3_eq (J:Nat):((J:Int) % 3 == 0) = decide (J % 3 = 0):=by
  by_cases h:J % 3 = 0
  · have:(J:Int) % 3 = 0:=by omega
    simp [h,this]
  · have:¬ (J:Int) % 3 = 0:=by omega
    simp [h,this]
end Go.Proofs.Ytcepcjkfdonclaa
namespace Go.Proofs.Ytcepcjkfdonclaa
open Go.RowKit F256
set_option maxHeartbeats 8000000 in
theorem markBlockS_is:MkS (layBlock.slice 68) (cSl cBlockD) (mkSl cBlockD mkBlockD) 70:=fun v d L j w h nd hj => by
  obtain ⟨n,x⟩:=d
  by_cases h0:n = 0
  · subst h0
    have hown:(layBlock.slice 68).own w (mkSl cBlockD mkBlockD j (0,x)) [v] L:=slice_congr h rfl (fun i hi => absurd hi (Nat.not_lt_zero i));obtain ⟨ao,cap,hv⟩:=sl_formO h;obtain rfl:=one_eq hv;clear h hv
    go_enter Try.func70,Try.ntmps70
    go_wp2
    go_loopw [1,5] (fun y i wr => y = .int .i64 j ∧ i = .int .i64 0 ∧ wr = w) (fun _ _ _ => 0)
    case atStart => exact ⟨rfl,rfl,rfl⟩
    case round =>
      obtain ⟨rfl,rfl,rfl⟩:=hrel;go_wp2;go_ret;exact ⟨ret_eq (by simp [cSl,sumN]),hown,ChgL.refl _ _⟩
  · obtain ⟨g,cap,ce,Ls,hv,rfl,so⟩:=slice_form h h0
    obtain rfl:=one_eq hv;obtain ⟨_,_,_,hm,_⟩:=(layBlock.slice 68).own_rd (hi:=w.heap.size) h ((layBlock.slice 68).own_lt h)
    simp only at hm
    unfold maxLen at hm;clear h hv
    simp only at so nd
    have hj':j + sumN (fun i => cBlockD (x i)) n ≤ 100000000:=hj;clear hj;have ND:Hid ((g :: catN n Ls).Nodup):=nd;clear nd
    go_enter Try.func70,Try.ntmps70
    go_wp2
    go_loopw [1,5] (fun y i wr => ∃ k:Nat,k ≤ n ∧ i = .int .i64 k ∧ y = .int .i64 ((j + sumN (fun i => cBlockD (x i)) k:Nat):Int) ∧ ∃ ce,SlO layBlock 68 wr g cap n (mkTo cBlockD mkBlockD j x k) ce Ls ∧ ChgL (g :: catN n Ls) w wr) (fun _ i _ => n - (intOf i).toNat)
    case atStart => exact ⟨0,Nat.zero_le _,rfl,rfl,ce,by rw [mkTo_zero];exact so,ChgL.refl _ _⟩
    case round =>
      clear so;obtain ⟨k,hk,rfl,rfl,ce,so,ch⟩:=hrel
      by_cases hlt:k < n
      · have S0:=so.at_ k
        rw [mkTo_at] at S0;obtain ⟨ao1,cap1,K1,hcs,hL,o1,k0⟩:=Block_own (S0.own hlt);rw [hcs] at S0;have HL:Hid (Ls k = K1):=hL;have hgn:=not_in ND.out hlt;have hnd:=nodup_at ND.out k hlt;rw [hL] at hgn hnd;have hs1:sumN (fun i => cBlockD (x i)) (k + 1) ≤ sumN (fun i => cBlockD (x i)) n:=sumN_mono _ (show k + 1 ≤ n from hlt);rw [sumN_succ] at hs1;obtain ⟨J,hJ⟩:∃ J,J = j + sumN (fun i => cBlockD (x i)) k:=⟨_,rfl⟩
        have hJb:J + cBlockD (x k) ≤ 100000000:=by omega
        have HJ:Hid (J = j + sumN (fun i => cBlockD (x i)) k):=hJ;rw [← hJ];clear hs1 hJ hL hcs so;unfold cBlockD at hJb;have CH:Hid (ChgL (g :: catN n Ls) w wr):=ch;clear ch;have O1:Hid (layBytes.own wr (x k).bytes [.slice ao1 (x k).bytes.1 cap1] K1):=o1;clear o1;have Q0:Hid ((-9223372036854775808 ≤ (x k).stamp ∧ (x k).stamp ≤ 9223372036854775807)):=k0;clear k0;have c0_0:wr.cell? ⟨g,k * 2,none⟩ = some (.int .i64 (x k).stamp):=S0.cell hlt (show 0 < layBlock.sz by decide);have f0_0:=S0.frozen (k * 2);have c0_1:wr.cell? ⟨g,k * 2 + 1,none⟩ = some (.slice ao1 (x k).bytes.1 cap1):=S0.cell hlt (show 1 < layBlock.sz by decide);have f0_1:=S0.frozen (k * 2 + 1)
        go_wp2_with fail
        have S1:SlK layBlock 68 (wr.setCell ⟨g,k * 2,none⟩ (.int .i64 (((J:Nat)):Int))) g cap n (mkTo cBlockD mkBlockD j x k) ce Ls k ⟨(((J:Nat)):Int),(x k).bytes⟩ [.int .i64 (((J:Nat)):Int),.slice ao1 (x k).bytes.1 cap1]:=S0.store ND.out hlt (show 0 < layBlock.sz by decide) (.int .i64 (((J:Nat)):Int)) (by rw [HL.out];exact Block_mk ⟨(((J:Nat)):Int),(x k).bytes⟩ (O1.out) ((show -9223372036854775808 ≤ (((J:Nat)):Int) ∧ (((J:Nat)):Int) ≤ 9223372036854775807 by omega)));refine (markBytes_is _ (x k).bytes K1 (J + 1) _ (own_setg (O1.out) hgn) hnd (by omega)).mono ?_;rintro e v1 ⟨rfl,p1,q1⟩;have OO1_1:Hid (layBytes.own v1 (mkBytes (J + 1) (x k).bytes) [.slice ao1 (x k).bytes.1 cap1] K1):=p1
        have SUB1:∀ b,b ∈ K1 → b ∈ Ls k:=fun b hb => by rw [HL.out];exact hb
        have S2:SlK layBlock 68 v1 g cap n (mkTo cBlockD mkBlockD j x k) ce Ls k ⟨(((J:Nat)):Int),(mkBytes (J + 1) (x k).bytes)⟩ [.int .i64 (((J:Nat)):Int),.slice ao1 (x k).bytes.1 cap1]:=S1.into ND.out hlt (q1.mono (SUB1)) (by rw [HL.out];exact Block_mk ⟨(((J:Nat)):Int),(mkBytes (J + 1) (x k).bytes)⟩ (OO1_1.out) ((show -9223372036854775808 ≤ (((J:Nat)):Int) ∧ (((J:Nat)):Int) ≤ 9223372036854775807 by omega)));have CH1:Hid (ChgL (g :: catN n Ls) w v1):=((CH.out).st g _ _ (List.mem_cons_self ..)).sub q1 (fun b hb => SlO.sub k hlt b ((SUB1) b hb));have FS:SlO layBlock 68 v1 g cap n (upd (mkTo cBlockD mkBlockD j x k) k (mkBlockD J (x k))) (upd ce k [.int .i64 (((J:Nat)):Int),.slice ao1 (x k).bytes.1 cap1]) Ls:=S2;rw [HJ.out,mkTo_next] at FS;have FS':Hid (∃ ce,SlO layBlock 68 v1 g cap n (mkTo cBlockD mkBlockD j x (k + 1)) ce Ls):=⟨_,FS⟩;clear FS p1 q1
        go_wp2_with fail
        go_roundw
        case rel =>
          obtain ⟨ce',FS⟩:=FS'.out
          exact ⟨k + 1,by omega,by go_num,val_eq (by
            have e1:=HJ.out;have e2:sumN (fun i => cBlockD (x i)) (k + 1) = sumN (fun i => cBlockD (x i)) k + cBlockD (x k):=rfl;have e3:cBlockD (x k) = 1 + lenD (x k).bytes:=rfl
            omega),ce',FS,CH1.out⟩
        case measure => simp [intOf];omega
      · obtain rfl:k = n:=by omega
        go_wp2;go_ret;exact ⟨rfl,(so.congr (fun i hi => mkTo_done cBlockD mkBlockD j x k i hi)).own,ch⟩
set_option maxHeartbeats 8000000 in
theorem markDriveS_is:MkS (layDrive.slice 58) (cSl cDriveD) (mkSl cDriveD mkDriveD) 60:=fun v d L j w h nd hj => by
  obtain ⟨n,x⟩:=d
  by_cases h0:n = 0
  · subst h0
    have hown:(layDrive.slice 58).own w (mkSl cDriveD mkDriveD j (0,x)) [v] L:=slice_congr h rfl (fun i hi => absurd hi (Nat.not_lt_zero i));obtain ⟨ao,cap,hv⟩:=sl_formO h;obtain rfl:=one_eq hv;clear h hv
    go_enter Try.func60,Try.ntmps60
    go_wp2
    go_loopw [1,5] (fun y i wr => y = .int .i64 j ∧ i = .int .i64 0 ∧ wr = w) (fun _ _ _ => 0)
    case atStart => exact ⟨rfl,rfl,rfl⟩
    case round =>
      obtain ⟨rfl,rfl,rfl⟩:=hrel;go_wp2;go_ret;exact ⟨ret_eq (by simp [cSl,sumN]),hown,ChgL.refl _ _⟩
  · obtain ⟨g,cap,ce,Ls,hv,rfl,so⟩:=slice_form h h0
    obtain rfl:=one_eq hv;obtain ⟨_,_,_,hm,_⟩:=(layDrive.slice 58).own_rd (hi:=w.heap.size) h ((layDrive.slice 58).own_lt h)
    simp only at hm
    unfold maxLen at hm;clear h hv
    simp only at so nd
    have hj':j + sumN (fun i => cDriveD (x i)) n ≤ 100000000:=hj;clear hj;have ND:Hid ((g :: catN n Ls).Nodup):=nd;clear nd
    go_enter Try.func60,Try.ntmps60
    go_wp2
    go_loopw [1,5] (fun y i wr => ∃ k:Nat,k ≤ n ∧ i = .int .i64 k ∧ y = .int .i64 ((j + sumN (fun i => cDriveD (x i)) k:Nat):Int) ∧ ∃ ce,SlO layDrive 58 wr g cap n (mkTo cDriveD mkDriveD j x k) ce Ls ∧ ChgL (g :: catN n Ls) w wr) (fun _ i _ => n - (intOf i).toNat)
    case atStart => exact ⟨0,Nat.zero_le _,rfl,rfl,ce,by rw [mkTo_zero];exact so,ChgL.refl _ _⟩
    case round =>
      clear so;obtain ⟨k,hk,rfl,rfl,ce,so,ch⟩:=hrel
      by_cases hlt:k < n
      · have S0:=so.at_ k
        rw [mkTo_at] at S0;obtain ⟨ao1,cap1,K1,hcs,hL,o1⟩:=Drive_own (S0.own hlt);rw [hcs] at S0;have HL:Hid (Ls k = K1):=hL;have hgn:=not_in ND.out hlt;have hnd:=nodup_at ND.out k hlt;rw [hL] at hgn hnd;have hs1:sumN (fun i => cDriveD (x i)) (k + 1) ≤ sumN (fun i => cDriveD (x i)) n:=sumN_mono _ (show k + 1 ≤ n from hlt);rw [sumN_succ] at hs1;obtain ⟨J,hJ⟩:∃ J,J = j + sumN (fun i => cDriveD (x i)) k:=⟨_,rfl⟩
        have hJb:J + cDriveD (x k) ≤ 100000000:=by omega
        have HJ:Hid (J = j + sumN (fun i => cDriveD (x i)) k):=hJ;rw [← hJ];clear hs1 hJ hL hcs so;unfold cDriveD at hJb;have CH:Hid (ChgL (g :: catN n Ls) w wr):=ch;clear ch;have O1:Hid ((layBlock.slice 68).own wr (x k).blocks [.slice ao1 (x k).blocks.1 cap1] K1):=o1;clear o1;have hb3:((J:Int) % 3 == 0) = decide (J % 3 = 0):=b3_eq J;have c0_0:wr.cell? ⟨g,k * 2,none⟩ = some (.bool (x k).wiped):=S0.cell hlt (show 0 < layDrive.sz by decide);have f0_0:=S0.frozen (k * 2);have c0_1:wr.cell? ⟨g,k * 2 + 1,none⟩ = some (.slice ao1 (x k).blocks.1 cap1):=S0.cell hlt (show 1 < layDrive.sz by decide);have f0_1:=S0.frozen (k * 2 + 1)
        go_wp2_with fail
        have S1:SlK layDrive 58 (wr.setCell ⟨g,k * 2,none⟩ (.bool (decide ((J) % 3 = 0)))) g cap n (mkTo cDriveD mkDriveD j x k) ce Ls k ⟨(decide ((J) % 3 = 0)),(x k).blocks⟩ [.bool (decide ((J) % 3 = 0)),.slice ao1 (x k).blocks.1 cap1]:=S0.store ND.out hlt (show 0 < layDrive.sz by decide) (.bool (decide ((J) % 3 = 0))) (by rw [HL.out];exact Drive_mk ⟨(decide ((J) % 3 = 0)),(x k).blocks⟩ (O1.out));refine (markBlockS_is _ (x k).blocks K1 (J + 1) _ (own_setg (O1.out) hgn) hnd (by omega)).mono ?_;rintro e v1 ⟨rfl,p1,q1⟩;have OO1_1:Hid ((layBlock.slice 68).own v1 ((mkSl cBlockD mkBlockD) (J + 1) (x k).blocks) [.slice ao1 (x k).blocks.1 cap1] K1):=p1
        have SUB1:∀ b,b ∈ K1 → b ∈ Ls k:=fun b hb => by rw [HL.out];exact hb
        have S2:SlK layDrive 58 v1 g cap n (mkTo cDriveD mkDriveD j x k) ce Ls k ⟨(decide ((J) % 3 = 0)),((mkSl cBlockD mkBlockD) (J + 1) (x k).blocks)⟩ [.bool (decide ((J) % 3 = 0)),.slice ao1 (x k).blocks.1 cap1]:=S1.into ND.out hlt (q1.mono (SUB1)) (by rw [HL.out];exact Drive_mk ⟨(decide ((J) % 3 = 0)),((mkSl cBlockD mkBlockD) (J + 1) (x k).blocks)⟩ (OO1_1.out));have CH1:Hid (ChgL (g :: catN n Ls) w v1):=((CH.out).st g _ _ (List.mem_cons_self ..)).sub q1 (fun b hb => SlO.sub k hlt b ((SUB1) b hb));have FS:SlO layDrive 58 v1 g cap n (upd (mkTo cDriveD mkDriveD j x k) k (mkDriveD J (x k))) (upd ce k [.bool (decide ((J) % 3 = 0)),.slice ao1 (x k).blocks.1 cap1]) Ls:=S2;rw [HJ.out,mkTo_next] at FS;have FS':Hid (∃ ce,SlO layDrive 58 v1 g cap n (mkTo cDriveD mkDriveD j x (k + 1)) ce Ls):=⟨_,FS⟩;clear FS p1 q1
        go_wp2_with fail
        go_roundw
        case rel =>
          obtain ⟨ce',FS⟩:=FS'.out
          exact ⟨k + 1,by omega,by go_num,val_eq (by
            have e1:=HJ.out;have e2:sumN (fun i => cDriveD (x i)) (k + 1) = sumN (fun i => cDriveD (x i)) k + cDriveD (x k):=rfl;have e3:cDriveD (x k) = 1 + (cSl cBlockD) (x k).blocks:=rfl
            omega),ce',FS,CH1.out⟩
        case measure => simp [intOf];omega
      · obtain rfl:k = n:=by omega
        go_wp2;go_ret;exact ⟨rfl,(so.congr (fun i hi => mkTo_done cDriveD mkDriveD j x k i hi)).own,ch⟩
set_option maxHeartbeats 4000000 in
theorem markDriveSS_is:MkS ((layDrive.slice 58).slice 55) (cSl (cSl cDriveD)) (mkSl (cSl cDriveD) (mkSl cDriveD mkDriveD)) 44:=fun v d L j w h nd hj => by
  obtain ⟨n,x⟩:=d
  by_cases h0:n = 0
  · subst h0
    have hown:((layDrive.slice 58).slice 55).own w (mkSl (cSl cDriveD) (mkSl cDriveD mkDriveD) j (0,x)) [v] L:=slice_congr h rfl (fun i hi => absurd hi (Nat.not_lt_zero i));obtain ⟨ao,cap,hv⟩:=sl_formO h;obtain rfl:=one_eq hv;clear h hv
    go_enter Try.func44,Try.ntmps44
    go_wp2
    go_loopw [1,5] (fun y i wr => y = .int .i64 j ∧ i = .int .i64 0 ∧ wr = w) (fun _ _ _ => 0)
    case atStart => exact ⟨rfl,rfl,rfl⟩
    case round =>
      obtain ⟨rfl,rfl,rfl⟩:=hrel;go_wp2;go_ret;exact ⟨ret_eq (by simp [cSl,sumN]),hown,ChgL.refl _ _⟩
  · obtain ⟨g,cap,ce,Ls,hv,rfl,so⟩:=slice_form h h0
    obtain rfl:=one_eq hv;obtain ⟨_,_,_,hm,_⟩:=((layDrive.slice 58).slice 55).own_rd (hi:=w.heap.size) h (((layDrive.slice 58).slice 55).own_lt h)
    simp only at hm
    unfold maxLen at hm;clear h hv
    simp only at so nd
    have hj':j + sumN (fun i => (cSl cDriveD) (x i)) n ≤ 100000000:=hj;clear hj;have ND:Hid ((g :: catN n Ls).Nodup):=nd;clear nd
    go_enter Try.func44,Try.ntmps44
    go_wp2
    go_loopw [1,5] (fun y i wr => ∃ k:Nat,k ≤ n ∧ i = .int .i64 k ∧ y = .int .i64 ((j + sumN (fun i => (cSl cDriveD) (x i)) k:Nat):Int) ∧ ∃ ce,SlO (layDrive.slice 58) 55 wr g cap n (mkTo (cSl cDriveD) (mkSl cDriveD mkDriveD) j x k) ce Ls ∧ ChgL (g :: catN n Ls) w wr) (fun _ i _ => n - (intOf i).toNat)
    case atStart => exact ⟨0,Nat.zero_le _,rfl,rfl,ce,by rw [mkTo_zero];exact so,ChgL.refl _ _⟩
    case round =>
      clear so;obtain ⟨k,hk,rfl,rfl,ce,so,ch⟩:=hrel
      by_cases hlt:k < n
      · have S0:=so.at_ k
        rw [mkTo_at] at S0;have o1:=S0.own hlt;obtain ⟨ao9,cap9,hcs⟩:=sl_formO o1;rw [hcs] at S0 o1;have hs1:sumN (fun i => (cSl cDriveD) (x i)) (k + 1) ≤ sumN (fun i => (cSl cDriveD) (x i)) n:=sumN_mono _ (show k + 1 ≤ n from hlt);rw [sumN_succ] at hs1;obtain ⟨J,hJ⟩:∃ J,J = j + sumN (fun i => (cSl cDriveD) (x i)) k:=⟨_,rfl⟩
        have hJb:J + (cSl cDriveD) (x k) ≤ 100000000:=by omega
        have HJ:Hid (J = j + sumN (fun i => (cSl cDriveD) (x i)) k):=hJ;rw [← hJ];clear hs1 hJ hcs so;have CH:Hid (ChgL (g :: catN n Ls) w wr):=ch;clear ch
        have c0:wr.cell? ⟨g,k,none⟩ = some (.slice ao9 (x k).1 cap9):=by
          have h:=S0.cell hlt (show 0 < (layDrive.slice 58).sz by decide);rw [show (layDrive.slice 58).sz = 1 from rfl,Nat.mul_one,Nat.add_zero] at h;exact h
        have HO:Hid ((layDrive.slice 58).own wr (x k) [.slice ao9 (x k).1 cap9] (Ls k)):=o1;clear o1
        go_wp2_with fail
        refine (markDriveS_is _ (x k) (Ls k) J _ HO.out (nodup_at ND.out k hlt) (by omega)).mono ?_;rintro e w2 ⟨rfl,p1,q1⟩;have S1:=S0.into ND.out hlt q1 p1;have CH1:Hid (ChgL (g :: catN n Ls) w w2):=CH.out.sub q1 (fun b hb => SlO.sub k hlt b hb);have FS:SlO (layDrive.slice 58) 55 w2 g cap n (upd (mkTo (cSl cDriveD) (mkSl cDriveD mkDriveD) j x k) k ((mkSl cDriveD mkDriveD) J (x k))) (upd ce k [.slice ao9 (x k).1 cap9]) Ls:=S1;rw [HJ.out,mkTo_next] at FS;have FS':Hid (∃ ce,SlO (layDrive.slice 58) 55 w2 g cap n (mkTo (cSl cDriveD) (mkSl cDriveD mkDriveD) j x (k + 1)) ce Ls):=⟨_,FS⟩;clear FS p1 q1 S1 S0
        go_wp2_with fail
        go_roundw
        case rel =>
          obtain ⟨ce',FS⟩:=FS'.out
          exact ⟨k + 1,by omega,by go_num,val_eq (by
            have e1:=HJ.out;have e2:sumN (fun i => (cSl cDriveD) (x i)) (k + 1) = sumN (fun i => (cSl cDriveD) (x i)) k + (cSl cDriveD) (x k):=rfl
            omega),ce',FS,CH1.out⟩
        case measure => simp [intOf];omega
      · obtain rfl:k = n:=by omega
        go_wp2;go_ret;exact ⟨rfl,(so.congr (fun i hi => mkTo_done (cSl cDriveD) (mkSl cDriveD mkDriveD) j x k i hi)).own,ch⟩
end Go.Proofs.Ytcepcjkfdonclaa
namespace Go.Proofs.Ytcepcjkfdonclaa
open Go.RowKit F256
set_option maxHeartbeats 8000000 in
theorem markRecS_is:MkS (layRec.slice 104) (cSl cRecD) (mkSl cRecD mkRecD) 61:=fun v d L j w h nd hj => by
  obtain ⟨n,x⟩:=d
  by_cases h0:n = 0
  · subst h0
    have hown:(layRec.slice 104).own w (mkSl cRecD mkRecD j (0,x)) [v] L:=slice_congr h rfl (fun i hi => absurd hi (Nat.not_lt_zero i));obtain ⟨ao,cap,hv⟩:=sl_formO h;obtain rfl:=one_eq hv;clear h hv
    go_enter Try.func61,Try.ntmps61
    go_wp2
    go_loopw [1,5] (fun y i wr => y = .int .i64 j ∧ i = .int .i64 0 ∧ wr = w) (fun _ _ _ => 0)
    case atStart => exact ⟨rfl,rfl,rfl⟩
    case round =>
      obtain ⟨rfl,rfl,rfl⟩:=hrel;go_wp2;go_ret;exact ⟨ret_eq (by simp [cSl,sumN]),hown,ChgL.refl _ _⟩
  · obtain ⟨g,cap,ce,Ls,hv,rfl,so⟩:=slice_form h h0
    obtain rfl:=one_eq hv;obtain ⟨_,_,_,hm,_⟩:=(layRec.slice 104).own_rd (hi:=w.heap.size) h ((layRec.slice 104).own_lt h)
    simp only at hm
    unfold maxLen at hm;clear h hv
    simp only at so nd
    have hj':j + sumN (fun i => cRecD (x i)) n ≤ 100000000:=hj;clear hj;have ND:Hid ((g :: catN n Ls).Nodup):=nd;clear nd
    go_enter Try.func61,Try.ntmps61
    go_wp2
    go_loopw [1,5] (fun y i wr => ∃ k:Nat,k ≤ n ∧ i = .int .i64 k ∧ y = .int .i64 ((j + sumN (fun i => cRecD (x i)) k:Nat):Int) ∧ ∃ ce,SlO layRec 104 wr g cap n (mkTo cRecD mkRecD j x k) ce Ls ∧ ChgL (g :: catN n Ls) w wr) (fun _ i _ => n - (intOf i).toNat)
    case atStart => exact ⟨0,Nat.zero_le _,rfl,rfl,ce,by rw [mkTo_zero];exact so,ChgL.refl _ _⟩
    case round =>
      clear so;obtain ⟨k,hk,rfl,rfl,ce,so,ch⟩:=hrel
      by_cases hlt:k < n
      · have S0:=so.at_ k
        rw [mkTo_at] at S0;obtain ⟨ao6,cap6,ao7,cap7,ao8,cap8,K6,K7,K8,hcs,hL,o6,o7,o8,k0,k1,k2,k3,k4,k5⟩:=Rec_own (S0.own hlt);rw [hcs] at S0;have HL:Hid (Ls k = K6 ++ (K7 ++ K8)):=hL;have hgn:=not_in ND.out hlt;have hnd:=nodup_at ND.out k hlt;rw [hL] at hgn hnd;have hs1:sumN (fun i => cRecD (x i)) (k + 1) ≤ sumN (fun i => cRecD (x i)) n:=sumN_mono _ (show k + 1 ≤ n from hlt);rw [sumN_succ] at hs1;obtain ⟨J,hJ⟩:∃ J,J = j + sumN (fun i => cRecD (x i)) k:=⟨_,rfl⟩
        have hJb:J + cRecD (x k) ≤ 100000000:=by omega
        have HJ:Hid (J = j + sumN (fun i => cRecD (x i)) k):=hJ;rw [← hJ];clear hs1 hJ hL hcs so;unfold cRecD at hJb;have CH:Hid (ChgL (g :: catN n Ls) w wr):=ch;clear ch;obtain ⟨n1,n2,n3⟩:=List.nodup_append.1 hnd;obtain ⟨n4,n5,n6⟩:=List.nodup_append.1 n2
        simp only [List.mem_append,not_or] at hgn
        obtain ⟨hg0,hg1,hg2⟩:=hgn;clear n2 hnd;have O6:Hid (layInts.own wr (x k).rows [.slice ao6 (x k).rows.1 cap6] K6):=o6;have O7:Hid (layBytes.own wr (x k).data [.slice ao7 (x k).data.1 cap7] K7):=o7;have O8:Hid (layBytes.own wr (x k).delta [.slice ao8 (x k).delta.1 cap8] K8):=o8;clear o6 o7 o8;have Q0:Hid ((-9223372036854775808 ≤ (x k).kind ∧ (x k).kind ≤ 9223372036854775807)):=k0;clear k0;have Q1:Hid ((-9223372036854775808 ≤ (x k).seq ∧ (x k).seq ≤ 9223372036854775807)):=k1;clear k1;have Q2:Hid ((x k).name.size ≤ maxLen):=k2;clear k2;have Q3:Hid ((-9223372036854775808 ≤ (x k).length ∧ (x k).length ≤ 9223372036854775807)):=k3;clear k3;have Q4:Hid ((-9223372036854775808 ≤ (x k).group ∧ (x k).group ≤ 9223372036854775807)):=k4;clear k4;have Q5:Hid ((-9223372036854775808 ≤ (x k).row ∧ (x k).row ≤ 9223372036854775807)):=k5;clear k5;have c0_0:wr.cell? ⟨g,k * 9,none⟩ = some (.int .i64 (x k).kind):=S0.cell hlt (show 0 < layRec.sz by decide);have f0_0:=S0.frozen (k * 9);have c0_1:wr.cell? ⟨g,k * 9 + 1,none⟩ = some (.int .i64 (x k).seq):=S0.cell hlt (show 1 < layRec.sz by decide);have f0_1:=S0.frozen (k * 9 + 1);have c0_2:wr.cell? ⟨g,k * 9 + 2,none⟩ = some (.string (x k).name):=S0.cell hlt (show 2 < layRec.sz by decide);have f0_2:=S0.frozen (k * 9 + 2);have c0_3:wr.cell? ⟨g,k * 9 + 3,none⟩ = some (.int .i64 (x k).length):=S0.cell hlt (show 3 < layRec.sz by decide);have f0_3:=S0.frozen (k * 9 + 3);have c0_4:wr.cell? ⟨g,k * 9 + 4,none⟩ = some (.int .i64 (x k).group):=S0.cell hlt (show 4 < layRec.sz by decide);have f0_4:=S0.frozen (k * 9 + 4);have c0_5:wr.cell? ⟨g,k * 9 + 5,none⟩ = some (.int .i64 (x k).row):=S0.cell hlt (show 5 < layRec.sz by decide);have f0_5:=S0.frozen (k * 9 + 5);have c0_6:wr.cell? ⟨g,k * 9 + 6,none⟩ = some (.slice ao6 (x k).rows.1 cap6):=S0.cell hlt (show 6 < layRec.sz by decide);have f0_6:=S0.frozen (k * 9 + 6);have c0_7:wr.cell? ⟨g,k * 9 + 7,none⟩ = some (.slice ao7 (x k).data.1 cap7):=S0.cell hlt (show 7 < layRec.sz by decide);have f0_7:=S0.frozen (k * 9 + 7);have c0_8:wr.cell? ⟨g,k * 9 + 8,none⟩ = some (.slice ao8 (x k).delta.1 cap8):=S0.cell hlt (show 8 < layRec.sz by decide);have f0_8:=S0.frozen (k * 9 + 8)
        go_wp2_with fail
        have S1:SlK layRec 104 (wr.setCell ⟨g,k * 9,none⟩ (.int .i64 (((J:Nat)):Int))) g cap n (mkTo cRecD mkRecD j x k) ce Ls k ⟨(((J:Nat)):Int),(x k).seq,(x k).name,(x k).length,(x k).group,(x k).row,(x k).rows,(x k).data,(x k).delta⟩ [.int .i64 (((J:Nat)):Int),.int .i64 (x k).seq,.string (x k).name,.int .i64 (x k).length,.int .i64 (x k).group,.int .i64 (x k).row,.slice ao6 (x k).rows.1 cap6,.slice ao7 (x k).data.1 cap7,.slice ao8 (x k).delta.1 cap8]:=S0.store ND.out hlt (show 0 < layRec.sz by decide) (.int .i64 (((J:Nat)):Int)) (by rw [HL.out];exact Rec_mk ⟨(((J:Nat)):Int),(x k).seq,(x k).name,(x k).length,(x k).group,(x k).row,(x k).rows,(x k).data,(x k).delta⟩ (O6.out) (O7.out) (O8.out) ((show -9223372036854775808 ≤ (((J:Nat)):Int) ∧ (((J:Nat)):Int) ≤ 9223372036854775807 by omega)) (Q1.out) (Q2.out) (Q3.out) (Q4.out) (Q5.out));have S2:SlK layRec 104 ((wr.setCell ⟨g,k * 9,none⟩ (.int .i64 (((J:Nat)):Int))).setCell ⟨g,k * 9 + 1,none⟩ (.int .i64 (((J + 1:Nat)):Int))) g cap n (mkTo cRecD mkRecD j x k) ce Ls k ⟨(((J:Nat)):Int),(((J + 1:Nat)):Int),(x k).name,(x k).length,(x k).group,(x k).row,(x k).rows,(x k).data,(x k).delta⟩ [.int .i64 (((J:Nat)):Int),.int .i64 (((J + 1:Nat)):Int),.string (x k).name,.int .i64 (x k).length,.int .i64 (x k).group,.int .i64 (x k).row,.slice ao6 (x k).rows.1 cap6,.slice ao7 (x k).data.1 cap7,.slice ao8 (x k).delta.1 cap8]:=S1.store ND.out hlt (show 1 < layRec.sz by decide) (.int .i64 (((J + 1:Nat)):Int)) (by rw [HL.out];exact Rec_mk ⟨(((J:Nat)):Int),(((J + 1:Nat)):Int),(x k).name,(x k).length,(x k).group,(x k).row,(x k).rows,(x k).data,(x k).delta⟩ (own_setg (O6.out) hg0) (own_setg (O7.out) hg1) (own_setg (O8.out) hg2) ((show -9223372036854775808 ≤ (((J:Nat)):Int) ∧ (((J:Nat)):Int) ≤ 9223372036854775807 by omega)) ((show -9223372036854775808 ≤ (((J + 1:Nat)):Int) ∧ (((J + 1:Nat)):Int) ≤ 9223372036854775807 by omega)) (Q2.out) (Q3.out) (Q4.out) (Q5.out));refine (markText_any (J + 2) (by omega) (by omega) _).mono ?_;rintro e wt ⟨rfl,bt⟩;have OO1_6:Hid (layInts.own wt (x k).rows [.slice ao6 (x k).rows.1 cap6] K6):=layInts.own_kept (own_setg (own_setg (O6.out) hg0) hg0) (fun b hb => bt.block b (layInts.own_lt (own_setg (own_setg (O6.out) hg0) hg0) b hb));have OO1_7:Hid (layBytes.own wt (x k).data [.slice ao7 (x k).data.1 cap7] K7):=layBytes.own_kept (own_setg (own_setg (O7.out) hg1) hg1) (fun b hb => bt.block b (layBytes.own_lt (own_setg (own_setg (O7.out) hg1) hg1) b hb));have OO1_8:Hid (layBytes.own wt (x k).delta [.slice ao8 (x k).delta.1 cap8] K8):=layBytes.own_kept (own_setg (own_setg (O8.out) hg2) hg2) (fun b hb => bt.block b (layBytes.own_lt (own_setg (own_setg (O8.out) hg2) hg2) b hb));have S1t:SlK layRec 104 wt g cap n (mkTo cRecD mkRecD j x k) ce Ls k ⟨(((J:Nat)):Int),(((J + 1:Nat)):Int),(x k).name,(x k).length,(x k).group,(x k).row,(x k).rows,(x k).data,(x k).delta⟩ [.int .i64 (((J:Nat)):Int),.int .i64 (((J + 1:Nat)):Int),.string (x k).name,.int .i64 (x k).length,.int .i64 (x k).group,.int .i64 (x k).row,.slice ao6 (x k).rows.1 cap6,.slice ao7 (x k).data.1 cap7,.slice ao8 (x k).delta.1 cap8]:=SlO.kept S2 (fun b hb => bt.block b (SlO.mem_lt S2 b hb))
        have CH1:Hid (ChgL (g :: catN n Ls) w wt):=(((CH.out).st g _ _ (List.mem_cons_self ..)).st g _ _ (List.mem_cons_self ..)).trans (ChgL.of_below bt);have c1_0:wt.cell? ⟨g,k * 9,none⟩ = some (.int .i64 (((J:Nat)):Int)):=S1t.cell hlt (show 0 < layRec.sz by decide);have f1_0:=S1t.frozen (k * 9);have c1_1:wt.cell? ⟨g,k * 9 + 1,none⟩ = some (.int .i64 (((J + 1:Nat)):Int)):=S1t.cell hlt (show 1 < layRec.sz by decide);have f1_1:=S1t.frozen (k * 9 + 1);have c1_2:wt.cell? ⟨g,k * 9 + 2,none⟩ = some (.string (x k).name):=S1t.cell hlt (show 2 < layRec.sz by decide);have f1_2:=S1t.frozen (k * 9 + 2);have c1_3:wt.cell? ⟨g,k * 9 + 3,none⟩ = some (.int .i64 (x k).length):=S1t.cell hlt (show 3 < layRec.sz by decide);have f1_3:=S1t.frozen (k * 9 + 3);have c1_4:wt.cell? ⟨g,k * 9 + 4,none⟩ = some (.int .i64 (x k).group):=S1t.cell hlt (show 4 < layRec.sz by decide);have f1_4:=S1t.frozen (k * 9 + 4);have c1_5:wt.cell? ⟨g,k * 9 + 5,none⟩ = some (.int .i64 (x k).row):=S1t.cell hlt (show 5 < layRec.sz by decide);have f1_5:=S1t.frozen (k * 9 + 5);have c1_6:wt.cell? ⟨g,k * 9 + 6,none⟩ = some (.slice ao6 (x k).rows.1 cap6):=S1t.cell hlt (show 6 < layRec.sz by decide);have f1_6:=S1t.frozen (k * 9 + 6);have c1_7:wt.cell? ⟨g,k * 9 + 7,none⟩ = some (.slice ao7 (x k).data.1 cap7):=S1t.cell hlt (show 7 < layRec.sz by decide);have f1_7:=S1t.frozen (k * 9 + 7);have c1_8:wt.cell? ⟨g,k * 9 + 8,none⟩ = some (.slice ao8 (x k).delta.1 cap8):=S1t.cell hlt (show 8 < layRec.sz by decide);have f1_8:=S1t.frozen (k * 9 + 8);clear bt
        go_wp2_with fail
        have S3:SlK layRec 104 (wt.setCell ⟨g,k * 9 + 2,none⟩ (.string (markT (J + 2)))) g cap n (mkTo cRecD mkRecD j x k) ce Ls k ⟨(((J:Nat)):Int),(((J + 1:Nat)):Int),(markT (J + 2)),(x k).length,(x k).group,(x k).row,(x k).rows,(x k).data,(x k).delta⟩ [.int .i64 (((J:Nat)):Int),.int .i64 (((J + 1:Nat)):Int),.string (markT (J + 2)),.int .i64 (x k).length,.int .i64 (x k).group,.int .i64 (x k).row,.slice ao6 (x k).rows.1 cap6,.slice ao7 (x k).data.1 cap7,.slice ao8 (x k).delta.1 cap8]:=S1t.store ND.out hlt (show 2 < layRec.sz by decide) (.string (markT (J + 2))) (by rw [HL.out];exact Rec_mk ⟨(((J:Nat)):Int),(((J + 1:Nat)):Int),(markT (J + 2)),(x k).length,(x k).group,(x k).row,(x k).rows,(x k).data,(x k).delta⟩ (OO1_6.out) (OO1_7.out) (OO1_8.out) ((show -9223372036854775808 ≤ (((J:Nat)):Int) ∧ (((J:Nat)):Int) ≤ 9223372036854775807 by omega)) ((show -9223372036854775808 ≤ (((J + 1:Nat)):Int) ∧ (((J + 1:Nat)):Int) ≤ 9223372036854775807 by omega)) (markT_le (J + 2)) (Q3.out) (Q4.out) (Q5.out));have S4:SlK layRec 104 ((wt.setCell ⟨g,k * 9 + 2,none⟩ (.string (markT (J + 2)))).setCell ⟨g,k * 9 + 3,none⟩ (.int .i64 (((J + 3:Nat)):Int))) g cap n (mkTo cRecD mkRecD j x k) ce Ls k ⟨(((J:Nat)):Int),(((J + 1:Nat)):Int),(markT (J + 2)),(((J + 3:Nat)):Int),(x k).group,(x k).row,(x k).rows,(x k).data,(x k).delta⟩ [.int .i64 (((J:Nat)):Int),.int .i64 (((J + 1:Nat)):Int),.string (markT (J + 2)),.int .i64 (((J + 3:Nat)):Int),.int .i64 (x k).group,.int .i64 (x k).row,.slice ao6 (x k).rows.1 cap6,.slice ao7 (x k).data.1 cap7,.slice ao8 (x k).delta.1 cap8]:=S3.store ND.out hlt (show 3 < layRec.sz by decide) (.int .i64 (((J + 3:Nat)):Int)) (by rw [HL.out];exact Rec_mk ⟨(((J:Nat)):Int),(((J + 1:Nat)):Int),(markT (J + 2)),(((J + 3:Nat)):Int),(x k).group,(x k).row,(x k).rows,(x k).data,(x k).delta⟩ (own_setg (OO1_6.out) hg0) (own_setg (OO1_7.out) hg1) (own_setg (OO1_8.out) hg2) ((show -9223372036854775808 ≤ (((J:Nat)):Int) ∧ (((J:Nat)):Int) ≤ 9223372036854775807 by omega)) ((show -9223372036854775808 ≤ (((J + 1:Nat)):Int) ∧ (((J + 1:Nat)):Int) ≤ 9223372036854775807 by omega)) (markT_le (J + 2)) ((show -9223372036854775808 ≤ (((J + 3:Nat)):Int) ∧ (((J + 3:Nat)):Int) ≤ 9223372036854775807 by omega)) (Q4.out) (Q5.out));have S5:SlK layRec 104 (((wt.setCell ⟨g,k * 9 + 2,none⟩ (.string (markT (J + 2)))).setCell ⟨g,k * 9 + 3,none⟩ (.int .i64 (((J + 3:Nat)):Int))).setCell ⟨g,k * 9 + 4,none⟩ (.int .i64 (((J + 4:Nat)):Int))) g cap n (mkTo cRecD mkRecD j x k) ce Ls k ⟨(((J:Nat)):Int),(((J + 1:Nat)):Int),(markT (J + 2)),(((J + 3:Nat)):Int),(((J + 4:Nat)):Int),(x k).row,(x k).rows,(x k).data,(x k).delta⟩ [.int .i64 (((J:Nat)):Int),.int .i64 (((J + 1:Nat)):Int),.string (markT (J + 2)),.int .i64 (((J + 3:Nat)):Int),.int .i64 (((J + 4:Nat)):Int),.int .i64 (x k).row,.slice ao6 (x k).rows.1 cap6,.slice ao7 (x k).data.1 cap7,.slice ao8 (x k).delta.1 cap8]:=S4.store ND.out hlt (show 4 < layRec.sz by decide) (.int .i64 (((J + 4:Nat)):Int)) (by rw [HL.out];exact Rec_mk ⟨(((J:Nat)):Int),(((J + 1:Nat)):Int),(markT (J + 2)),(((J + 3:Nat)):Int),(((J + 4:Nat)):Int),(x k).row,(x k).rows,(x k).data,(x k).delta⟩ (own_setg (own_setg (OO1_6.out) hg0) hg0) (own_setg (own_setg (OO1_7.out) hg1) hg1) (own_setg (own_setg (OO1_8.out) hg2) hg2) ((show -9223372036854775808 ≤ (((J:Nat)):Int) ∧ (((J:Nat)):Int) ≤ 9223372036854775807 by omega)) ((show -9223372036854775808 ≤ (((J + 1:Nat)):Int) ∧ (((J + 1:Nat)):Int) ≤ 9223372036854775807 by omega)) (markT_le (J + 2)) ((show -9223372036854775808 ≤ (((J + 3:Nat)):Int) ∧ (((J + 3:Nat)):Int) ≤ 9223372036854775807 by omega)) ((show -9223372036854775808 ≤ (((J + 4:Nat)):Int) ∧ (((J + 4:Nat)):Int) ≤ 9223372036854775807 by omega)) (Q5.out))
        have S6:SlK layRec 104 ((((wt.setCell ⟨g,k * 9 + 2,none⟩ (.string (markT (J + 2)))).setCell ⟨g,k * 9 + 3,none⟩ (.int .i64 (((J + 3:Nat)):Int))).setCell ⟨g,k * 9 + 4,none⟩ (.int .i64 (((J + 4:Nat)):Int))).setCell ⟨g,k * 9 + 5,none⟩ (.int .i64 (((J + 5:Nat)):Int))) g cap n (mkTo cRecD mkRecD j x k) ce Ls k ⟨(((J:Nat)):Int),(((J + 1:Nat)):Int),(markT (J + 2)),(((J + 3:Nat)):Int),(((J + 4:Nat)):Int),(((J + 5:Nat)):Int),(x k).rows,(x k).data,(x k).delta⟩ [.int .i64 (((J:Nat)):Int),.int .i64 (((J + 1:Nat)):Int),.string (markT (J + 2)),.int .i64 (((J + 3:Nat)):Int),.int .i64 (((J + 4:Nat)):Int),.int .i64 (((J + 5:Nat)):Int),.slice ao6 (x k).rows.1 cap6,.slice ao7 (x k).data.1 cap7,.slice ao8 (x k).delta.1 cap8]:=S5.store ND.out hlt (show 5 < layRec.sz by decide) (.int .i64 (((J + 5:Nat)):Int)) (by rw [HL.out];exact Rec_mk ⟨(((J:Nat)):Int),(((J + 1:Nat)):Int),(markT (J + 2)),(((J + 3:Nat)):Int),(((J + 4:Nat)):Int),(((J + 5:Nat)):Int),(x k).rows,(x k).data,(x k).delta⟩ (own_setg (own_setg (own_setg (OO1_6.out) hg0) hg0) hg0) (own_setg (own_setg (own_setg (OO1_7.out) hg1) hg1) hg1) (own_setg (own_setg (own_setg (OO1_8.out) hg2) hg2) hg2) ((show -9223372036854775808 ≤ (((J:Nat)):Int) ∧ (((J:Nat)):Int) ≤ 9223372036854775807 by omega)) ((show -9223372036854775808 ≤ (((J + 1:Nat)):Int) ∧ (((J + 1:Nat)):Int) ≤ 9223372036854775807 by omega)) (markT_le (J + 2)) ((show -9223372036854775808 ≤ (((J + 3:Nat)):Int) ∧ (((J + 3:Nat)):Int) ≤ 9223372036854775807 by omega)) ((show -9223372036854775808 ≤ (((J + 4:Nat)):Int) ∧ (((J + 4:Nat)):Int) ≤ 9223372036854775807 by omega)) ((show -9223372036854775808 ≤ (((J + 5:Nat)):Int) ∧ (((J + 5:Nat)):Int) ≤ 9223372036854775807 by omega)));refine (markInts_is _ (x k).rows K6 (J + 6) _ (own_setg (own_setg (own_setg (own_setg (OO1_6.out) hg0) hg0) hg0) hg0) n1 (by omega)).mono ?_;rintro e v6 ⟨rfl,p6,q6⟩;have OO2_6:Hid (layInts.own v6 (mkInts (J + 6) (x k).rows) [.slice ao6 (x k).rows.1 cap6] K6):=p6;have OO2_7:Hid (layBytes.own v6 (x k).data [.slice ao7 (x k).data.1 cap7] K7):=layBytes.own_chgL (own_setg (own_setg (own_setg (own_setg (OO1_7.out) hg1) hg1) hg1) hg1) q6 (fun b hb hx => n3 b hx b (List.mem_append_left _ hb) rfl);have OO2_8:Hid (layBytes.own v6 (x k).delta [.slice ao8 (x k).delta.1 cap8] K8):=layBytes.own_chgL (own_setg (own_setg (own_setg (own_setg (OO1_8.out) hg2) hg2) hg2) hg2) q6 (fun b hb hx => n3 b hx b (List.mem_append_right _ hb) rfl)
        have SUB6:∀ b,b ∈ K6 → b ∈ Ls k:=fun b hb => by rw [HL.out];exact List.mem_append_left _ hb
        have S7:SlK layRec 104 v6 g cap n (mkTo cRecD mkRecD j x k) ce Ls k ⟨(((J:Nat)):Int),(((J + 1:Nat)):Int),(markT (J + 2)),(((J + 3:Nat)):Int),(((J + 4:Nat)):Int),(((J + 5:Nat)):Int),(mkInts (J + 6) (x k).rows),(x k).data,(x k).delta⟩ [.int .i64 (((J:Nat)):Int),.int .i64 (((J + 1:Nat)):Int),.string (markT (J + 2)),.int .i64 (((J + 3:Nat)):Int),.int .i64 (((J + 4:Nat)):Int),.int .i64 (((J + 5:Nat)):Int),.slice ao6 (x k).rows.1 cap6,.slice ao7 (x k).data.1 cap7,.slice ao8 (x k).delta.1 cap8]:=S6.into ND.out hlt (q6.mono (SUB6)) (by rw [HL.out];exact Rec_mk ⟨(((J:Nat)):Int),(((J + 1:Nat)):Int),(markT (J + 2)),(((J + 3:Nat)):Int),(((J + 4:Nat)):Int),(((J + 5:Nat)):Int),(mkInts (J + 6) (x k).rows),(x k).data,(x k).delta⟩ (OO2_6.out) (OO2_7.out) (OO2_8.out) ((show -9223372036854775808 ≤ (((J:Nat)):Int) ∧ (((J:Nat)):Int) ≤ 9223372036854775807 by omega)) ((show -9223372036854775808 ≤ (((J + 1:Nat)):Int) ∧ (((J + 1:Nat)):Int) ≤ 9223372036854775807 by omega)) (markT_le (J + 2)) ((show -9223372036854775808 ≤ (((J + 3:Nat)):Int) ∧ (((J + 3:Nat)):Int) ≤ 9223372036854775807 by omega)) ((show -9223372036854775808 ≤ (((J + 4:Nat)):Int) ∧ (((J + 4:Nat)):Int) ≤ 9223372036854775807 by omega)) ((show -9223372036854775808 ≤ (((J + 5:Nat)):Int) ∧ (((J + 5:Nat)):Int) ≤ 9223372036854775807 by omega)));have CH2:Hid (ChgL (g :: catN n Ls) w v6):=(((((CH1.out).st g _ _ (List.mem_cons_self ..)).st g _ _ (List.mem_cons_self ..)).st g _ _ (List.mem_cons_self ..)).st g _ _ (List.mem_cons_self ..)).sub q6 (fun b hb => SlO.sub k hlt b ((SUB6) b hb));have c2_0:v6.cell? ⟨g,k * 9,none⟩ = some (.int .i64 (((J:Nat)):Int)):=S7.cell hlt (show 0 < layRec.sz by decide);have f2_0:=S7.frozen (k * 9);have c2_1:v6.cell? ⟨g,k * 9 + 1,none⟩ = some (.int .i64 (((J + 1:Nat)):Int)):=S7.cell hlt (show 1 < layRec.sz by decide);have f2_1:=S7.frozen (k * 9 + 1);have c2_2:v6.cell? ⟨g,k * 9 + 2,none⟩ = some (.string (markT (J + 2))):=S7.cell hlt (show 2 < layRec.sz by decide);have f2_2:=S7.frozen (k * 9 + 2);have c2_3:v6.cell? ⟨g,k * 9 + 3,none⟩ = some (.int .i64 (((J + 3:Nat)):Int)):=S7.cell hlt (show 3 < layRec.sz by decide);have f2_3:=S7.frozen (k * 9 + 3);have c2_4:v6.cell? ⟨g,k * 9 + 4,none⟩ = some (.int .i64 (((J + 4:Nat)):Int)):=S7.cell hlt (show 4 < layRec.sz by decide);have f2_4:=S7.frozen (k * 9 + 4);have c2_5:v6.cell? ⟨g,k * 9 + 5,none⟩ = some (.int .i64 (((J + 5:Nat)):Int)):=S7.cell hlt (show 5 < layRec.sz by decide);have f2_5:=S7.frozen (k * 9 + 5);have c2_6:v6.cell? ⟨g,k * 9 + 6,none⟩ = some (.slice ao6 (x k).rows.1 cap6):=S7.cell hlt (show 6 < layRec.sz by decide);have f2_6:=S7.frozen (k * 9 + 6);have c2_7:v6.cell? ⟨g,k * 9 + 7,none⟩ = some (.slice ao7 (x k).data.1 cap7):=S7.cell hlt (show 7 < layRec.sz by decide);have f2_7:=S7.frozen (k * 9 + 7);have c2_8:v6.cell? ⟨g,k * 9 + 8,none⟩ = some (.slice ao8 (x k).delta.1 cap8):=S7.cell hlt (show 8 < layRec.sz by decide)
        have f2_8:=S7.frozen (k * 9 + 8);clear p6 q6
        go_wp2_with fail
        refine (markBytes_is _ (x k).data K7 (J + 6 + lenD (x k).rows) _ (OO2_7.out) n4 (by omega)).mono ?_;rintro e v7 ⟨rfl,p7,q7⟩;have OO3_6:Hid (layInts.own v7 (mkInts (J + 6) (x k).rows) [.slice ao6 (x k).rows.1 cap6] K6):=layInts.own_chgL (OO2_6.out) q7 (fun b hb hx => n3 b hb b (List.mem_append_left _ hx) rfl);have OO3_7:Hid (layBytes.own v7 (mkBytes (J + 6 + lenD (x k).rows) (x k).data) [.slice ao7 (x k).data.1 cap7] K7):=p7;have OO3_8:Hid (layBytes.own v7 (x k).delta [.slice ao8 (x k).delta.1 cap8] K8):=layBytes.own_chgL (OO2_8.out) q7 (fun b hb hx => n6 b hx b hb rfl)
        have SUB7:∀ b,b ∈ K7 → b ∈ Ls k:=fun b hb => by rw [HL.out];exact List.mem_append_right _ (List.mem_append_left _ hb)
        have S8:SlK layRec 104 v7 g cap n (mkTo cRecD mkRecD j x k) ce Ls k ⟨(((J:Nat)):Int),(((J + 1:Nat)):Int),(markT (J + 2)),(((J + 3:Nat)):Int),(((J + 4:Nat)):Int),(((J + 5:Nat)):Int),(mkInts (J + 6) (x k).rows),(mkBytes (J + 6 + lenD (x k).rows) (x k).data),(x k).delta⟩ [.int .i64 (((J:Nat)):Int),.int .i64 (((J + 1:Nat)):Int),.string (markT (J + 2)),.int .i64 (((J + 3:Nat)):Int),.int .i64 (((J + 4:Nat)):Int),.int .i64 (((J + 5:Nat)):Int),.slice ao6 (x k).rows.1 cap6,.slice ao7 (x k).data.1 cap7,.slice ao8 (x k).delta.1 cap8]:=S7.into ND.out hlt (q7.mono (SUB7)) (by rw [HL.out];exact Rec_mk ⟨(((J:Nat)):Int),(((J + 1:Nat)):Int),(markT (J + 2)),(((J + 3:Nat)):Int),(((J + 4:Nat)):Int),(((J + 5:Nat)):Int),(mkInts (J + 6) (x k).rows),(mkBytes (J + 6 + lenD (x k).rows) (x k).data),(x k).delta⟩ (OO3_6.out) (OO3_7.out) (OO3_8.out) ((show -9223372036854775808 ≤ (((J:Nat)):Int) ∧ (((J:Nat)):Int) ≤ 9223372036854775807 by omega)) ((show -9223372036854775808 ≤ (((J + 1:Nat)):Int) ∧ (((J + 1:Nat)):Int) ≤ 9223372036854775807 by omega)) (markT_le (J + 2)) ((show -9223372036854775808 ≤ (((J + 3:Nat)):Int) ∧ (((J + 3:Nat)):Int) ≤ 9223372036854775807 by omega)) ((show -9223372036854775808 ≤ (((J + 4:Nat)):Int) ∧ (((J + 4:Nat)):Int) ≤ 9223372036854775807 by omega)) ((show -9223372036854775808 ≤ (((J + 5:Nat)):Int) ∧ (((J + 5:Nat)):Int) ≤ 9223372036854775807 by omega)));have CH3:Hid (ChgL (g :: catN n Ls) w v7):=(CH2.out).sub q7 (fun b hb => SlO.sub k hlt b ((SUB7) b hb));have c3_0:v7.cell? ⟨g,k * 9,none⟩ = some (.int .i64 (((J:Nat)):Int)):=S8.cell hlt (show 0 < layRec.sz by decide);have f3_0:=S8.frozen (k * 9);have c3_1:v7.cell? ⟨g,k * 9 + 1,none⟩ = some (.int .i64 (((J + 1:Nat)):Int)):=S8.cell hlt (show 1 < layRec.sz by decide);have f3_1:=S8.frozen (k * 9 + 1);have c3_2:v7.cell? ⟨g,k * 9 + 2,none⟩ = some (.string (markT (J + 2))):=S8.cell hlt (show 2 < layRec.sz by decide);have f3_2:=S8.frozen (k * 9 + 2);have c3_3:v7.cell? ⟨g,k * 9 + 3,none⟩ = some (.int .i64 (((J + 3:Nat)):Int)):=S8.cell hlt (show 3 < layRec.sz by decide);have f3_3:=S8.frozen (k * 9 + 3);have c3_4:v7.cell? ⟨g,k * 9 + 4,none⟩ = some (.int .i64 (((J + 4:Nat)):Int)):=S8.cell hlt (show 4 < layRec.sz by decide);have f3_4:=S8.frozen (k * 9 + 4);have c3_5:v7.cell? ⟨g,k * 9 + 5,none⟩ = some (.int .i64 (((J + 5:Nat)):Int)):=S8.cell hlt (show 5 < layRec.sz by decide);have f3_5:=S8.frozen (k * 9 + 5);have c3_6:v7.cell? ⟨g,k * 9 + 6,none⟩ = some (.slice ao6 (x k).rows.1 cap6):=S8.cell hlt (show 6 < layRec.sz by decide);have f3_6:=S8.frozen (k * 9 + 6);have c3_7:v7.cell? ⟨g,k * 9 + 7,none⟩ = some (.slice ao7 (x k).data.1 cap7):=S8.cell hlt (show 7 < layRec.sz by decide);have f3_7:=S8.frozen (k * 9 + 7);have c3_8:v7.cell? ⟨g,k * 9 + 8,none⟩ = some (.slice ao8 (x k).delta.1 cap8):=S8.cell hlt (show 8 < layRec.sz by decide)
        have f3_8:=S8.frozen (k * 9 + 8);clear p7 q7
        go_wp2_with fail
        refine (markBytes_is _ (x k).delta K8 (J + 6 + lenD (x k).rows + lenD (x k).data) _ (OO3_8.out) n5 (by omega)).mono ?_;rintro e v8 ⟨rfl,p8,q8⟩;have OO4_6:Hid (layInts.own v8 (mkInts (J + 6) (x k).rows) [.slice ao6 (x k).rows.1 cap6] K6):=layInts.own_chgL (OO3_6.out) q8 (fun b hb hx => n3 b hb b (List.mem_append_right _ hx) rfl);have OO4_7:Hid (layBytes.own v8 (mkBytes (J + 6 + lenD (x k).rows) (x k).data) [.slice ao7 (x k).data.1 cap7] K7):=layBytes.own_chgL (OO3_7.out) q8 (fun b hb hx => n6 b hb b hx rfl);have OO4_8:Hid (layBytes.own v8 (mkBytes (J + 6 + lenD (x k).rows + lenD (x k).data) (x k).delta) [.slice ao8 (x k).delta.1 cap8] K8):=p8
        have SUB8:∀ b,b ∈ K8 → b ∈ Ls k:=fun b hb => by rw [HL.out];exact List.mem_append_right _ (List.mem_append_right _ hb)
        have S9:SlK layRec 104 v8 g cap n (mkTo cRecD mkRecD j x k) ce Ls k ⟨(((J:Nat)):Int),(((J + 1:Nat)):Int),(markT (J + 2)),(((J + 3:Nat)):Int),(((J + 4:Nat)):Int),(((J + 5:Nat)):Int),(mkInts (J + 6) (x k).rows),(mkBytes (J + 6 + lenD (x k).rows) (x k).data),(mkBytes (J + 6 + lenD (x k).rows + lenD (x k).data) (x k).delta)⟩ [.int .i64 (((J:Nat)):Int),.int .i64 (((J + 1:Nat)):Int),.string (markT (J + 2)),.int .i64 (((J + 3:Nat)):Int),.int .i64 (((J + 4:Nat)):Int),.int .i64 (((J + 5:Nat)):Int),.slice ao6 (x k).rows.1 cap6,.slice ao7 (x k).data.1 cap7,.slice ao8 (x k).delta.1 cap8]:=S8.into ND.out hlt (q8.mono (SUB8)) (by rw [HL.out];exact Rec_mk ⟨(((J:Nat)):Int),(((J + 1:Nat)):Int),(markT (J + 2)),(((J + 3:Nat)):Int),(((J + 4:Nat)):Int),(((J + 5:Nat)):Int),(mkInts (J + 6) (x k).rows),(mkBytes (J + 6 + lenD (x k).rows) (x k).data),(mkBytes (J + 6 + lenD (x k).rows + lenD (x k).data) (x k).delta)⟩ (OO4_6.out) (OO4_7.out) (OO4_8.out) ((show -9223372036854775808 ≤ (((J:Nat)):Int) ∧ (((J:Nat)):Int) ≤ 9223372036854775807 by omega)) ((show -9223372036854775808 ≤ (((J + 1:Nat)):Int) ∧ (((J + 1:Nat)):Int) ≤ 9223372036854775807 by omega)) (markT_le (J + 2)) ((show -9223372036854775808 ≤ (((J + 3:Nat)):Int) ∧ (((J + 3:Nat)):Int) ≤ 9223372036854775807 by omega)) ((show -9223372036854775808 ≤ (((J + 4:Nat)):Int) ∧ (((J + 4:Nat)):Int) ≤ 9223372036854775807 by omega)) ((show -9223372036854775808 ≤ (((J + 5:Nat)):Int) ∧ (((J + 5:Nat)):Int) ≤ 9223372036854775807 by omega)));have CH4:Hid (ChgL (g :: catN n Ls) w v8):=(CH3.out).sub q8 (fun b hb => SlO.sub k hlt b ((SUB8) b hb));have FS:SlO layRec 104 v8 g cap n (upd (mkTo cRecD mkRecD j x k) k (mkRecD J (x k))) (upd ce k [.int .i64 (((J:Nat)):Int),.int .i64 (((J + 1:Nat)):Int),.string (markT (J + 2)),.int .i64 (((J + 3:Nat)):Int),.int .i64 (((J + 4:Nat)):Int),.int .i64 (((J + 5:Nat)):Int),.slice ao6 (x k).rows.1 cap6,.slice ao7 (x k).data.1 cap7,.slice ao8 (x k).delta.1 cap8]) Ls:=S9;rw [HJ.out,mkTo_next] at FS;have FS':Hid (∃ ce,SlO layRec 104 v8 g cap n (mkTo cRecD mkRecD j x (k + 1)) ce Ls):=⟨_,FS⟩;clear FS p8 q8
        go_wp2_with fail
        go_roundw
        case rel =>
          obtain ⟨ce',FS⟩:=FS'.out
          exact ⟨k + 1,by omega,by go_num,val_eq (by
            have e1:=HJ.out;have e2:sumN (fun i => cRecD (x i)) (k + 1) = sumN (fun i => cRecD (x i)) k + cRecD (x k):=rfl;have e3:cRecD (x k) = 6 + lenD (x k).rows + lenD (x k).data + lenD (x k).delta:=rfl
            omega),ce',FS,CH4.out⟩
        case measure => simp [intOf];omega
      · obtain rfl:k = n:=by omega
        go_wp2;go_ret;exact ⟨rfl,(so.congr (fun i hi => mkTo_done cRecD mkRecD j x k i hi)).own,ch⟩
set_option maxHeartbeats 8000000 in
theorem markTapeS_is:MkS (layTape.slice 88) (cSl cTapeD) (mkSl cTapeD mkTapeD) 46:=fun v d L j w h nd hj => by
  obtain ⟨n,x⟩:=d
  by_cases h0:n = 0
  · subst h0
    have hown:(layTape.slice 88).own w (mkSl cTapeD mkTapeD j (0,x)) [v] L:=slice_congr h rfl (fun i hi => absurd hi (Nat.not_lt_zero i));obtain ⟨ao,cap,hv⟩:=sl_formO h;obtain rfl:=one_eq hv;clear h hv
    go_enter Try.func46,Try.ntmps46
    go_wp2
    go_loopw [1,5] (fun y i wr => y = .int .i64 j ∧ i = .int .i64 0 ∧ wr = w) (fun _ _ _ => 0)
    case atStart => exact ⟨rfl,rfl,rfl⟩
    case round =>
      obtain ⟨rfl,rfl,rfl⟩:=hrel;go_wp2;go_ret;exact ⟨ret_eq (by simp [cSl,sumN]),hown,ChgL.refl _ _⟩
  · obtain ⟨g,cap,ce,Ls,hv,rfl,so⟩:=slice_form h h0
    obtain rfl:=one_eq hv;obtain ⟨_,_,_,hm,_⟩:=(layTape.slice 88).own_rd (hi:=w.heap.size) h ((layTape.slice 88).own_lt h)
    simp only at hm
    unfold maxLen at hm;clear h hv
    simp only at so nd
    have hj':j + sumN (fun i => cTapeD (x i)) n ≤ 100000000:=hj;clear hj;have ND:Hid ((g :: catN n Ls).Nodup):=nd;clear nd
    go_enter Try.func46,Try.ntmps46
    go_wp2
    go_loopw [1,5] (fun y i wr => ∃ k:Nat,k ≤ n ∧ i = .int .i64 k ∧ y = .int .i64 ((j + sumN (fun i => cTapeD (x i)) k:Nat):Int) ∧ ∃ ce,SlO layTape 88 wr g cap n (mkTo cTapeD mkTapeD j x k) ce Ls ∧ ChgL (g :: catN n Ls) w wr) (fun _ i _ => n - (intOf i).toNat)
    case atStart => exact ⟨0,Nat.zero_le _,rfl,rfl,ce,by rw [mkTo_zero];exact so,ChgL.refl _ _⟩
    case round =>
      clear so;obtain ⟨k,hk,rfl,rfl,ce,so,ch⟩:=hrel
      by_cases hlt:k < n
      · have S0:=so.at_ k
        rw [mkTo_at] at S0;obtain ⟨ao1,cap1,K1,hcs,hL,o1⟩:=Tape_own (S0.own hlt);rw [hcs] at S0;have HL:Hid (Ls k = K1):=hL;have hgn:=not_in ND.out hlt;have hnd:=nodup_at ND.out k hlt;rw [hL] at hgn hnd;have hs1:sumN (fun i => cTapeD (x i)) (k + 1) ≤ sumN (fun i => cTapeD (x i)) n:=sumN_mono _ (show k + 1 ≤ n from hlt);rw [sumN_succ] at hs1;obtain ⟨J,hJ⟩:∃ J,J = j + sumN (fun i => cTapeD (x i)) k:=⟨_,rfl⟩
        have hJb:J + cTapeD (x k) ≤ 100000000:=by omega
        have HJ:Hid (J = j + sumN (fun i => cTapeD (x i)) k):=hJ;rw [← hJ];clear hs1 hJ hL hcs so;unfold cTapeD at hJb;have CH:Hid (ChgL (g :: catN n Ls) w wr):=ch;clear ch;have O1:Hid ((layRec.slice 104).own wr (x k).recs [.slice ao1 (x k).recs.1 cap1] K1):=o1;clear o1;have hb3:((J:Int) % 3 == 0) = decide (J % 3 = 0):=b3_eq J;have c0_0:wr.cell? ⟨g,k * 2,none⟩ = some (.bool (x k).wiped):=S0.cell hlt (show 0 < layTape.sz by decide);have f0_0:=S0.frozen (k * 2);have c0_1:wr.cell? ⟨g,k * 2 + 1,none⟩ = some (.slice ao1 (x k).recs.1 cap1):=S0.cell hlt (show 1 < layTape.sz by decide);have f0_1:=S0.frozen (k * 2 + 1)
        go_wp2_with fail
        have S1:SlK layTape 88 (wr.setCell ⟨g,k * 2,none⟩ (.bool (decide ((J) % 3 = 0)))) g cap n (mkTo cTapeD mkTapeD j x k) ce Ls k ⟨(decide ((J) % 3 = 0)),(x k).recs⟩ [.bool (decide ((J) % 3 = 0)),.slice ao1 (x k).recs.1 cap1]:=S0.store ND.out hlt (show 0 < layTape.sz by decide) (.bool (decide ((J) % 3 = 0))) (by rw [HL.out];exact Tape_mk ⟨(decide ((J) % 3 = 0)),(x k).recs⟩ (O1.out));refine (markRecS_is _ (x k).recs K1 (J + 1) _ (own_setg (O1.out) hgn) hnd (by omega)).mono ?_;rintro e v1 ⟨rfl,p1,q1⟩;have OO1_1:Hid ((layRec.slice 104).own v1 ((mkSl cRecD mkRecD) (J + 1) (x k).recs) [.slice ao1 (x k).recs.1 cap1] K1):=p1
        have SUB1:∀ b,b ∈ K1 → b ∈ Ls k:=fun b hb => by rw [HL.out];exact hb
        have S2:SlK layTape 88 v1 g cap n (mkTo cTapeD mkTapeD j x k) ce Ls k ⟨(decide ((J) % 3 = 0)),((mkSl cRecD mkRecD) (J + 1) (x k).recs)⟩ [.bool (decide ((J) % 3 = 0)),.slice ao1 (x k).recs.1 cap1]:=S1.into ND.out hlt (q1.mono (SUB1)) (by rw [HL.out];exact Tape_mk ⟨(decide ((J) % 3 = 0)),((mkSl cRecD mkRecD) (J + 1) (x k).recs)⟩ (OO1_1.out));have CH1:Hid (ChgL (g :: catN n Ls) w v1):=((CH.out).st g _ _ (List.mem_cons_self ..)).sub q1 (fun b hb => SlO.sub k hlt b ((SUB1) b hb));have FS:SlO layTape 88 v1 g cap n (upd (mkTo cTapeD mkTapeD j x k) k (mkTapeD J (x k))) (upd ce k [.bool (decide ((J) % 3 = 0)),.slice ao1 (x k).recs.1 cap1]) Ls:=S2;rw [HJ.out,mkTo_next] at FS;have FS':Hid (∃ ce,SlO layTape 88 v1 g cap n (mkTo cTapeD mkTapeD j x (k + 1)) ce Ls):=⟨_,FS⟩;clear FS p1 q1
        go_wp2_with fail
        go_roundw
        case rel =>
          obtain ⟨ce',FS⟩:=FS'.out
          exact ⟨k + 1,by omega,by go_num,val_eq (by
            have e1:=HJ.out;have e2:sumN (fun i => cTapeD (x i)) (k + 1) = sumN (fun i => cTapeD (x i)) k + cTapeD (x k):=rfl;have e3:cTapeD (x k) = 1 + (cSl cRecD) (x k).recs:=rfl
            omega),ce',FS,CH1.out⟩
        case measure => simp [intOf];omega
      · obtain rfl:k = n:=by omega
        go_wp2;go_ret;exact ⟨rfl,(so.congr (fun i hi => mkTo_done cTapeD mkTapeD j x k i hi)).own,ch⟩
end Go.Proofs.Ytcepcjkfdonclaa
namespace Go.Proofs.Ytcepcjkfdonclaa
open Go.RowKit F256
set_option maxHeartbeats 4000000 in
theorem markWorld_is:MkV layWorld cvWorldD mkvWorldD 31:=fun cs d L j w h nd hj => by
  obtain ⟨ao1,cap1,ao2,cap2,ao3,cap3,K1,K2,K3,rfl,rfl,o1,o2,o3,k0,k4,k5⟩:=World_own h;clear h
  unfold cvWorldD at hj ⊢;obtain ⟨n0,m0,d0⟩:=List.nodup_append.1 nd;obtain ⟨n1,m1,d1⟩:=List.nodup_append.1 m0;obtain ⟨n2,m2,d2⟩:=List.nodup_append.1 m1;have Z1:=((layDrive.slice 58).slice 55).own_lt o1;have Z2:=layInts.own_lt o2;have Z3:=(layTape.slice 88).own_lt o3;have bz:Below w.heap.size w (w.alloc (.cells #[.int .i64 (d.shape 0),.int .i64 (d.shape 1),.int .i64 (d.shape 2),.int .i64 (d.shape 3),.int .i64 (d.shape 4),.int .i64 (d.shape 5),.int .i64 (d.shape 6),.int .i64 (d.shape 7),.int .i64 (d.shape 8),.slice ao1 d.groups.1 cap1,.slice ao2 d.on.1 cap2,.slice ao3 d.tapes.1 cap3,.int .i64 d.writes,.int .i64 d.stop,.bool d.down] 29)):=(Below.refl _ _).alloc (Nat.le_refl _) _;have B0:Hid (Box (w.alloc (.cells #[.int .i64 (d.shape 0),.int .i64 (d.shape 1),.int .i64 (d.shape 2),.int .i64 (d.shape 3),.int .i64 (d.shape 4),.int .i64 (d.shape 5),.int .i64 (d.shape 6),.int .i64 (d.shape 7),.int .i64 (d.shape 8),.slice ao1 d.groups.1 cap1,.slice ao2 d.on.1 cap2,.slice ao3 d.tapes.1 cap3,.int .i64 d.writes,.int .i64 d.stop,.bool d.down] 29)) w.heap.size #[.int .i64 (d.shape 0),.int .i64 (d.shape 1),.int .i64 (d.shape 2),.int .i64 (d.shape 3),.int .i64 (d.shape 4),.int .i64 (d.shape 5),.int .i64 (d.shape 6),.int .i64 (d.shape 7),.int .i64 (d.shape 8),.slice ao1 d.groups.1 cap1,.slice ao2 d.on.1 cap2,.slice ao3 d.tapes.1 cap3,.int .i64 d.writes,.int .i64 d.stop,.bool d.down] 29):=box_new _ _ _;have CH0:Hid (ChgL (K1 ++ (K2 ++ (K3 ++ []))) w (w.alloc (.cells #[.int .i64 (d.shape 0),.int .i64 (d.shape 1),.int .i64 (d.shape 2),.int .i64 (d.shape 3),.int .i64 (d.shape 4),.int .i64 (d.shape 5),.int .i64 (d.shape 6),.int .i64 (d.shape 7),.int .i64 (d.shape 8),.slice ao1 d.groups.1 cap1,.slice ao2 d.on.1 cap2,.slice ao3 d.tapes.1 cap3,.int .i64 d.writes,.int .i64 d.stop,.bool d.down] 29))):=ChgL.of_below bz;have O0_1:Hid (((layDrive.slice 58).slice 55).own (w.alloc (.cells #[.int .i64 (d.shape 0),.int .i64 (d.shape 1),.int .i64 (d.shape 2),.int .i64 (d.shape 3),.int .i64 (d.shape 4),.int .i64 (d.shape 5),.int .i64 (d.shape 6),.int .i64 (d.shape 7),.int .i64 (d.shape 8),.slice ao1 d.groups.1 cap1,.slice ao2 d.on.1 cap2,.slice ao3 d.tapes.1 cap3,.int .i64 d.writes,.int .i64 d.stop,.bool d.down] 29)) d.groups [.slice ao1 d.groups.1 cap1] K1):=((layDrive.slice 58).slice 55).own_kept o1 (fun b hb => bz.block b (Z1 b hb));have O0_2:Hid (layInts.own (w.alloc (.cells #[.int .i64 (d.shape 0),.int .i64 (d.shape 1),.int .i64 (d.shape 2),.int .i64 (d.shape 3),.int .i64 (d.shape 4),.int .i64 (d.shape 5),.int .i64 (d.shape 6),.int .i64 (d.shape 7),.int .i64 (d.shape 8),.slice ao1 d.groups.1 cap1,.slice ao2 d.on.1 cap2,.slice ao3 d.tapes.1 cap3,.int .i64 d.writes,.int .i64 d.stop,.bool d.down] 29)) d.on [.slice ao2 d.on.1 cap2] K2):=layInts.own_kept o2 (fun b hb => bz.block b (Z2 b hb));have O0_3:Hid ((layTape.slice 88).own (w.alloc (.cells #[.int .i64 (d.shape 0),.int .i64 (d.shape 1),.int .i64 (d.shape 2),.int .i64 (d.shape 3),.int .i64 (d.shape 4),.int .i64 (d.shape 5),.int .i64 (d.shape 6),.int .i64 (d.shape 7),.int .i64 (d.shape 8),.slice ao1 d.groups.1 cap1,.slice ao2 d.on.1 cap2,.slice ao3 d.tapes.1 cap3,.int .i64 d.writes,.int .i64 d.stop,.bool d.down] 29)) d.tapes [.slice ao3 d.tapes.1 cap3] K3):=(layTape.slice 88).own_kept o3 (fun b hb => bz.block b (Z3 b hb))
  clear bz o1 o2 o3
  go_enter Try.func31,Try.ntmps31
  go_wp2_with fail
  refine (markDriveSS_is _ d.groups K1 (j) _ O0_1.out n0 (by omega)).mono ?_;rintro e w1 ⟨rfl,p1,q1⟩;have O1_1:Hid (((layDrive.slice 58).slice 55).own w1 ((mkSl (cSl cDriveD) (mkSl cDriveD mkDriveD)) (j) d.groups) [.slice ao1 d.groups.1 cap1] K1):=p1;have O1_2:Hid (layInts.own w1 d.on [.slice ao2 d.on.1 cap2] K2):=layInts.own_chgL O0_2.out q1 (fun b hb hx => d0 b hx b (List.mem_append_left _ hb) rfl);have O1_3:Hid ((layTape.slice 88).own w1 d.tapes [.slice ao3 d.tapes.1 cap3] K3):=(layTape.slice 88).own_chgL O0_3.out q1 (fun b hb hx => d0 b hx b (List.mem_append_right _ (List.mem_append_left _ hb)) rfl);have B1:Hid (Box w1 w.heap.size #[.int .i64 (d.shape 0),.int .i64 (d.shape 1),.int .i64 (d.shape 2),.int .i64 (d.shape 3),.int .i64 (d.shape 4),.int .i64 (d.shape 5),.int .i64 (d.shape 6),.int .i64 (d.shape 7),.int .i64 (d.shape 8),.slice ao1 d.groups.1 cap1,.slice ao2 d.on.1 cap2,.slice ao3 d.tapes.1 cap3,.int .i64 d.writes,.int .i64 d.stop,.bool d.down] 29):=(q1.block w.heap.size B0.out.lt (fun hb => by have:=Z1 _ hb;omega)).trans B0.out;have CH1:Hid (ChgL (K1 ++ (K2 ++ (K3 ++ []))) w w1):=CH0.out.sub q1 (fun b hb => List.mem_append_left _ hb);clear p1 q1;have x1_10:w1.cell? ⟨w.heap.size,10,none⟩ = some (.slice ao2 d.on.1 cap2):=B1.out.cell 10
  go_wp2_with fail
  refine (markInts_is _ d.on K2 (j + (cSl (cSl cDriveD)) d.groups) _ O1_2.out n1 (by omega)).mono ?_;rintro e w2 ⟨rfl,p2,q2⟩;have O2_1:Hid (((layDrive.slice 58).slice 55).own w2 ((mkSl (cSl cDriveD) (mkSl cDriveD mkDriveD)) (j) d.groups) [.slice ao1 d.groups.1 cap1] K1):=((layDrive.slice 58).slice 55).own_chgL O1_1.out q2 (fun b hb hx => d0 b hb b (List.mem_append_left _ hx) rfl);have O2_2:Hid (layInts.own w2 (mkInts (j + (cSl (cSl cDriveD)) d.groups) d.on) [.slice ao2 d.on.1 cap2] K2):=p2;have O2_3:Hid ((layTape.slice 88).own w2 d.tapes [.slice ao3 d.tapes.1 cap3] K3):=(layTape.slice 88).own_chgL O1_3.out q2 (fun b hb hx => d1 b hx b (List.mem_append_left _ hb) rfl);have B2:Hid (Box w2 w.heap.size #[.int .i64 (d.shape 0),.int .i64 (d.shape 1),.int .i64 (d.shape 2),.int .i64 (d.shape 3),.int .i64 (d.shape 4),.int .i64 (d.shape 5),.int .i64 (d.shape 6),.int .i64 (d.shape 7),.int .i64 (d.shape 8),.slice ao1 d.groups.1 cap1,.slice ao2 d.on.1 cap2,.slice ao3 d.tapes.1 cap3,.int .i64 d.writes,.int .i64 d.stop,.bool d.down] 29):=(q2.block w.heap.size B1.out.lt (fun hb => by have:=Z2 _ hb;omega)).trans B1.out;have CH2:Hid (ChgL (K1 ++ (K2 ++ (K3 ++ []))) w w2):=CH1.out.sub q2 (fun b hb => List.mem_append_right _ (List.mem_append_left _ hb));clear p2 q2;have x2_11:w2.cell? ⟨w.heap.size,11,none⟩ = some (.slice ao3 d.tapes.1 cap3):=B2.out.cell 11
  go_wp2_with fail
  refine (markTapeS_is _ d.tapes K3 (j + (cSl (cSl cDriveD)) d.groups + lenD d.on) _ O2_3.out n2 (by omega)).mono ?_;rintro e w3 ⟨rfl,p3,q3⟩;have O3_1:Hid (((layDrive.slice 58).slice 55).own w3 ((mkSl (cSl cDriveD) (mkSl cDriveD mkDriveD)) (j) d.groups) [.slice ao1 d.groups.1 cap1] K1):=((layDrive.slice 58).slice 55).own_chgL O2_1.out q3 (fun b hb hx => d0 b hb b (List.mem_append_right _ (List.mem_append_left _ hx)) rfl);have O3_2:Hid (layInts.own w3 (mkInts (j + (cSl (cSl cDriveD)) d.groups) d.on) [.slice ao2 d.on.1 cap2] K2):=layInts.own_chgL O2_2.out q3 (fun b hb hx => d1 b hb b (List.mem_append_left _ hx) rfl);have O3_3:Hid ((layTape.slice 88).own w3 ((mkSl cTapeD mkTapeD) (j + (cSl (cSl cDriveD)) d.groups + lenD d.on) d.tapes) [.slice ao3 d.tapes.1 cap3] K3):=p3;have B3:Hid (Box w3 w.heap.size #[.int .i64 (d.shape 0),.int .i64 (d.shape 1),.int .i64 (d.shape 2),.int .i64 (d.shape 3),.int .i64 (d.shape 4),.int .i64 (d.shape 5),.int .i64 (d.shape 6),.int .i64 (d.shape 7),.int .i64 (d.shape 8),.slice ao1 d.groups.1 cap1,.slice ao2 d.on.1 cap2,.slice ao3 d.tapes.1 cap3,.int .i64 d.writes,.int .i64 d.stop,.bool d.down] 29):=(q3.block w.heap.size B2.out.lt (fun hb => by have:=Z3 _ hb;omega)).trans B2.out;have CH3:Hid (ChgL (K1 ++ (K2 ++ (K3 ++ []))) w w3):=CH2.out.sub q3 (fun b hb => List.mem_append_right _ (List.mem_append_right _ (List.mem_append_left _ hb)));clear p3 q3;go_wp2;go_ret;exact ⟨ret_eq (by omega),World_mk (mkvWorldD j d) O3_1.out O3_2.out O3_3.out k0 k4 k5,CH3.out⟩
end Go.Proofs.Ytcepcjkfdonclaa
namespace Go.Proofs.Ytcepcjkfdonclaa
open Go.RowKit F256
set_option maxHeartbeats 8000000 in
set_option maxRecDepth 20000 in
theorem heldBlockS_is:HdS (layBlock.slice 68) (cSl cBlockD) (mkSl cBlockD mkBlockD) 71:=fun v d hi j w h hhi hj => by
  obtain ⟨n,x⟩:=d;obtain ⟨ao,cap,hv,hm,hc⟩:=h;have hv':v = .slice ao n cap:=one_eq hv;subst hv';clear hv;have hj':j + sumN (fun i => cBlockD (x i)) n ≤ 100000000:=hj;have hm':n ≤ maxLen:=hm;have hc':n ≠ 0 → ∃ b off,ao = some ⟨b,off,none⟩ ∧ b < hi ∧ ∀ i,i < n → ∃ ce,layBlock.rd w hi (mkBlockD (j + sumN (fun i => cBlockD (x i)) i) (x i)) ce ∧ ∀ jj,jj < layBlock.sz → w.cell? ⟨b,off + (i * layBlock.sz + jj),none⟩ = ce[jj]?:=hc;clear hc hm hj;unfold maxLen at hm'
  go_enter Try.func71,Try.ntmps71
  go_wp2
  go_loopw [1,5] (fun y i wr => ∃ k:Nat,k ≤ n ∧ i = .int .i64 k ∧ y = .int .i64 ((j + sumN (fun i => cBlockD (x i)) k:Nat):Int) ∧ Below w.heap.size w wr) (fun _ i _ => n - (intOf i).toNat)
  case atStart => exact ⟨0,Nat.zero_le _,rfl,rfl,Below.refl _ _⟩
  case round =>
    obtain ⟨k,hk,rfl,rfl,hb⟩:=hrel
    by_cases hlt:k < n
    · obtain ⟨b,off,rfl,hblt,hel⟩:=hc' (by omega)
      obtain ⟨ck,hrk,hcell⟩:=elem_rd (t:=0) (x:=fun i => mkBlockD (j + sumN (fun i => cBlockD (x i)) i) (x i)) hel hb hhi hblt hlt;have hs1:sumN (fun i => cBlockD (x i)) (k + 1) ≤ sumN (fun i => cBlockD (x i)) n:=sumN_mono _ (show k + 1 ≤ n from hlt);rw [sumN_succ] at hs1;have hrk1:layBlock.rd wr hi (mkBlockD (j + sumN (fun i => cBlockD (x i)) k) (x k)) ck:=hrk;clear hrk;obtain ⟨J,hJ⟩:∃ J,J = j + sumN (fun i => cBlockD (x i)) k:=⟨_,rfl⟩
      have hJb:J + cBlockD (x k) ≤ 100000000:=by omega
      have HJ:Hid (J = j + sumN (fun i => cBlockD (x i)) k):=hJ;rw [← hJ] at hrk1 ⊢;clear hs1 hJ hc' hel;have zr:=hb.size;unfold cBlockD at hJb;obtain ⟨ao1,cap1,hck,r1,-⟩:=Block_rd hrk1;subst hck;clear hrk1;have c0_0:wr.cell? ⟨b,off + k * 2,none⟩ = some (.int .i64 ((J:Int))):=hcell 0 (by decide);have c0_1:wr.cell? ⟨b,off + k * 2 + 1,none⟩ = some (.slice ao1 (x k).bytes.1 cap1):=hcell 1 (by decide);have R0_1:Hid (layBytes.rd wr hi ((mkBytes (J + 1) (x k).bytes)) [.slice ao1 (x k).bytes.1 cap1]):=r1;clear hcell r1;have HB0:Hid (Below w.heap.size w wr):=hb;clear hb
      go_wp2_with fail
      refine (heldBytes_is _ (x k).bytes hi (J + 1) _ R0_1.out (by omega) (by omega)).mono ?_;rintro e w1 ⟨rfl,b1⟩;have z1:wr.heap.size ≤ w1.heap.size:=b1.size
      have hz1:¬ (((J + 1 + lenD (x k).bytes:Nat):Int) < 0):=by omega
      have HB1:Hid (Below w.heap.size w w1):=HB0.out.trans (b1.mono HB0.out.size);clear b1
      go_wp2_with fail
      go_roundw
      case rel =>
        exact ⟨k + 1,by omega,by go_num,val_eq (by
          have e1:=HJ.out;have e2:sumN (fun i => cBlockD (x i)) (k + 1) = sumN (fun i => cBlockD (x i)) k + cBlockD (x k):=rfl;have e3:cBlockD (x k) = 1 + lenD (x k).bytes:=rfl
          omega),HB1.out⟩
      case measure => simp [intOf];omega
    · obtain rfl:k = n:=by omega
      go_wp2;go_ret;exact ⟨rfl,hb⟩
set_option maxHeartbeats 8000000 in
set_option maxRecDepth 20000 in
theorem heldDriveS_is:HdS (layDrive.slice 58) (cSl cDriveD) (mkSl cDriveD mkDriveD) 64:=fun v d hi j w h hhi hj => by
  obtain ⟨n,x⟩:=d;obtain ⟨ao,cap,hv,hm,hc⟩:=h;have hv':v = .slice ao n cap:=one_eq hv;subst hv';clear hv;have hj':j + sumN (fun i => cDriveD (x i)) n ≤ 100000000:=hj;have hm':n ≤ maxLen:=hm;have hc':n ≠ 0 → ∃ b off,ao = some ⟨b,off,none⟩ ∧ b < hi ∧ ∀ i,i < n → ∃ ce,layDrive.rd w hi (mkDriveD (j + sumN (fun i => cDriveD (x i)) i) (x i)) ce ∧ ∀ jj,jj < layDrive.sz → w.cell? ⟨b,off + (i * layDrive.sz + jj),none⟩ = ce[jj]?:=hc;clear hc hm hj;unfold maxLen at hm'
  go_enter Try.func64,Try.ntmps64
  go_wp2
  go_loopw [1,5] (fun y i wr => ∃ k:Nat,k ≤ n ∧ i = .int .i64 k ∧ y = .int .i64 ((j + sumN (fun i => cDriveD (x i)) k:Nat):Int) ∧ Below w.heap.size w wr) (fun _ i _ => n - (intOf i).toNat)
  case atStart => exact ⟨0,Nat.zero_le _,rfl,rfl,Below.refl _ _⟩
  case round =>
    obtain ⟨k,hk,rfl,rfl,hb⟩:=hrel
    by_cases hlt:k < n
    · obtain ⟨b,off,rfl,hblt,hel⟩:=hc' (by omega)
      obtain ⟨ck,hrk,hcell⟩:=elem_rd (t:=0) (x:=fun i => mkDriveD (j + sumN (fun i => cDriveD (x i)) i) (x i)) hel hb hhi hblt hlt;have hs1:sumN (fun i => cDriveD (x i)) (k + 1) ≤ sumN (fun i => cDriveD (x i)) n:=sumN_mono _ (show k + 1 ≤ n from hlt);rw [sumN_succ] at hs1;have hrk1:layDrive.rd wr hi (mkDriveD (j + sumN (fun i => cDriveD (x i)) k) (x k)) ck:=hrk;clear hrk;obtain ⟨J,hJ⟩:∃ J,J = j + sumN (fun i => cDriveD (x i)) k:=⟨_,rfl⟩
      have hJb:J + cDriveD (x k) ≤ 100000000:=by omega
      have HJ:Hid (J = j + sumN (fun i => cDriveD (x i)) k):=hJ;rw [← hJ] at hrk1 ⊢;clear hs1 hJ hc' hel;have zr:=hb.size;unfold cDriveD at hJb;obtain ⟨ao1,cap1,hck,r1⟩:=Drive_rd hrk1;subst hck;clear hrk1;have c0_0:wr.cell? ⟨b,off + k * 2,none⟩ = some (.bool (decide (J % 3 = 0))):=hcell 0 (by decide);have c0_1:wr.cell? ⟨b,off + k * 2 + 1,none⟩ = some (.slice ao1 (x k).blocks.1 cap1):=hcell 1 (by decide);have R0_1:Hid ((layBlock.slice 68).rd wr hi (((mkSl cBlockD mkBlockD) (J + 1) (x k).blocks)) [.slice ao1 (x k).blocks.1 cap1]):=r1;clear hcell r1;have hb3:((J:Int) % 3 == 0) = decide (J % 3 = 0):=b3_eq J;have HB0:Hid (Below w.heap.size w wr):=hb;clear hb
      go_wp2_with fail
      refine (heldBlockS_is _ (x k).blocks hi (J + 1) _ R0_1.out (by omega) (by omega)).mono ?_;rintro e w1 ⟨rfl,b1⟩;have z1:wr.heap.size ≤ w1.heap.size:=b1.size
      have hz1:¬ (((J + 1 + (cSl cBlockD) (x k).blocks:Nat):Int) < 0):=by omega
      have HB1:Hid (Below w.heap.size w w1):=HB0.out.trans (b1.mono HB0.out.size);clear b1
      go_wp2_with fail
      go_roundw
      case rel =>
        exact ⟨k + 1,by omega,by go_num,val_eq (by
          have e1:=HJ.out;have e2:sumN (fun i => cDriveD (x i)) (k + 1) = sumN (fun i => cDriveD (x i)) k + cDriveD (x k):=rfl;have e3:cDriveD (x k) = 1 + (cSl cBlockD) (x k).blocks:=rfl
          omega),HB1.out⟩
      case measure => simp [intOf];omega
    · obtain rfl:k = n:=by omega
      go_wp2;go_ret;exact ⟨rfl,hb⟩
set_option maxHeartbeats 8000000 in
set_option maxRecDepth 20000 in
theorem heldDriveSS_is:HdS ((layDrive.slice 58).slice 55) (cSl (cSl cDriveD)) (mkSl (cSl cDriveD) (mkSl cDriveD mkDriveD)) 50:=fun v d hi j w h hhi hj => by
  obtain ⟨n,x⟩:=d;obtain ⟨ao,cap,hv,hm,hc⟩:=h;have hv':v = .slice ao n cap:=one_eq hv;subst hv';clear hv;have hj':j + sumN (fun i => (cSl cDriveD) (x i)) n ≤ 100000000:=hj;have hm':n ≤ maxLen:=hm;have hc':n ≠ 0 → ∃ b off,ao = some ⟨b,off,none⟩ ∧ b < hi ∧ ∀ i,i < n → ∃ ce,(layDrive.slice 58).rd w hi ((mkSl cDriveD mkDriveD) (j + sumN (fun i => (cSl cDriveD) (x i)) i) (x i)) ce ∧ ∀ jj,jj < (layDrive.slice 58).sz → w.cell? ⟨b,off + (i * (layDrive.slice 58).sz + jj),none⟩ = ce[jj]?:=hc;clear hc hm hj;unfold maxLen at hm'
  go_enter Try.func50,Try.ntmps50
  go_wp2
  go_loopw [1,5] (fun y i wr => ∃ k:Nat,k ≤ n ∧ i = .int .i64 k ∧ y = .int .i64 ((j + sumN (fun i => (cSl cDriveD) (x i)) k:Nat):Int) ∧ Below w.heap.size w wr) (fun _ i _ => n - (intOf i).toNat)
  case atStart => exact ⟨0,Nat.zero_le _,rfl,rfl,Below.refl _ _⟩
  case round =>
    obtain ⟨k,hk,rfl,rfl,hb⟩:=hrel
    by_cases hlt:k < n
    · obtain ⟨b,off,rfl,hblt,hel⟩:=hc' (by omega)
      obtain ⟨ck,hrk,hcell⟩:=elem_rd (t:=0) (x:=fun i => (mkSl cDriveD mkDriveD) (j + sumN (fun i => (cSl cDriveD) (x i)) i) (x i)) hel hb hhi hblt hlt;have hs1:sumN (fun i => (cSl cDriveD) (x i)) (k + 1) ≤ sumN (fun i => (cSl cDriveD) (x i)) n:=sumN_mono _ (show k + 1 ≤ n from hlt);rw [sumN_succ] at hs1;have hrk1:(layDrive.slice 58).rd wr hi ((mkSl cDriveD mkDriveD) (j + sumN (fun i => (cSl cDriveD) (x i)) k) (x k)) ck:=hrk;clear hrk;obtain ⟨J,hJ⟩:∃ J,J = j + sumN (fun i => (cSl cDriveD) (x i)) k:=⟨_,rfl⟩
      have hJb:J + (cSl cDriveD) (x k) ≤ 100000000:=by omega
      have HJ:Hid (J = j + sumN (fun i => (cSl cDriveD) (x i)) k):=hJ;rw [← hJ] at hrk1 ⊢;clear hs1 hJ hc' hel;have zr:=hb.size;obtain ⟨ao9,cap9,hck⟩:=sl_form hrk1;subst hck
      have c0:wr.cell? ⟨b,off + k,none⟩ = some (.slice ao9 (x k).1 cap9):=by
        have h:=hcell 0 (show 0 < 1 by decide);rw [show (layDrive.slice 58).sz = 1 from rfl,Nat.mul_one,Nat.add_zero] at h;exact h
      have R0:Hid ((layDrive.slice 58).rd wr hi ((mkSl cDriveD mkDriveD) J (x k)) [.slice ao9 (x k).1 cap9]):=hrk1;clear hrk1 hcell
      go_wp2_with fail
      refine (heldDriveS_is _ (x k) hi J _ R0.out (by omega) (by omega)).mono ?_;rintro e w1 ⟨rfl,b1⟩;have HB1:Hid (Below w.heap.size w w1):=hb.trans (b1.mono hb.size)
      have hz:¬ (((J + (cSl cDriveD) (x k):Nat):Int) < 0):=by omega
      clear b1 hb
      go_wp2_with fail
      go_roundw
      case rel =>
        exact ⟨k + 1,by omega,by go_num,val_eq (by
          have e1:=HJ.out;have e2:sumN (fun i => (cSl cDriveD) (x i)) (k + 1) = sumN (fun i => (cSl cDriveD) (x i)) k + (cSl cDriveD) (x k):=rfl;have e3:(cSl cDriveD) (x k) = (cSl cDriveD) (x k):=rfl
          omega),HB1.out⟩
      case measure => simp [intOf];omega
    · obtain rfl:k = n:=by omega
      go_wp2;go_ret;exact ⟨rfl,hb⟩
end Go.Proofs.Ytcepcjkfdonclaa
namespace Go.Proofs.Ytcepcjkfdonclaa
open Go.RowKit F256
set_option maxHeartbeats 8000000 in
set_option maxRecDepth 20000 in
theorem heldRecS_is:HdS (layRec.slice 104) (cSl cRecD) (mkSl cRecD mkRecD) 65:=fun v d hi j w h hhi hj => by
  obtain ⟨n,x⟩:=d;obtain ⟨ao,cap,hv,hm,hc⟩:=h;have hv':v = .slice ao n cap:=one_eq hv;subst hv';clear hv;have hj':j + sumN (fun i => cRecD (x i)) n ≤ 100000000:=hj;have hm':n ≤ maxLen:=hm;have hc':n ≠ 0 → ∃ b off,ao = some ⟨b,off,none⟩ ∧ b < hi ∧ ∀ i,i < n → ∃ ce,layRec.rd w hi (mkRecD (j + sumN (fun i => cRecD (x i)) i) (x i)) ce ∧ ∀ jj,jj < layRec.sz → w.cell? ⟨b,off + (i * layRec.sz + jj),none⟩ = ce[jj]?:=hc;clear hc hm hj;unfold maxLen at hm'
  go_enter Try.func65,Try.ntmps65
  go_wp2
  go_loopw [1,5] (fun y i wr => ∃ k:Nat,k ≤ n ∧ i = .int .i64 k ∧ y = .int .i64 ((j + sumN (fun i => cRecD (x i)) k:Nat):Int) ∧ Below w.heap.size w wr) (fun _ i _ => n - (intOf i).toNat)
  case atStart => exact ⟨0,Nat.zero_le _,rfl,rfl,Below.refl _ _⟩
  case round =>
    obtain ⟨k,hk,rfl,rfl,hb⟩:=hrel
    by_cases hlt:k < n
    · obtain ⟨b,off,rfl,hblt,hel⟩:=hc' (by omega)
      obtain ⟨ck,hrk,hcell⟩:=elem_rd (t:=0) (x:=fun i => mkRecD (j + sumN (fun i => cRecD (x i)) i) (x i)) hel hb hhi hblt hlt;have hs1:sumN (fun i => cRecD (x i)) (k + 1) ≤ sumN (fun i => cRecD (x i)) n:=sumN_mono _ (show k + 1 ≤ n from hlt);rw [sumN_succ] at hs1;have hrk1:layRec.rd wr hi (mkRecD (j + sumN (fun i => cRecD (x i)) k) (x k)) ck:=hrk;clear hrk;obtain ⟨J,hJ⟩:∃ J,J = j + sumN (fun i => cRecD (x i)) k:=⟨_,rfl⟩
      have hJb:J + cRecD (x k) ≤ 100000000:=by omega
      have HJ:Hid (J = j + sumN (fun i => cRecD (x i)) k):=hJ;rw [← hJ] at hrk1 ⊢;clear hs1 hJ hc' hel;have zr:=hb.size;unfold cRecD at hJb;obtain ⟨ao6,cap6,ao7,cap7,ao8,cap8,hck,r6,r7,r8,-⟩:=Rec_rd hrk1;subst hck;clear hrk1;have c0_0:wr.cell? ⟨b,off + k * 9,none⟩ = some (.int .i64 ((J:Int))):=hcell 0 (by decide);have c0_1:wr.cell? ⟨b,off + k * 9 + 1,none⟩ = some (.int .i64 ((J:Int) + 1)):=hcell 1 (by decide);have c0_2:wr.cell? ⟨b,off + k * 9 + 2,none⟩ = some (.string (markT (J + 2))):=hcell 2 (by decide);have c0_3:wr.cell? ⟨b,off + k * 9 + 3,none⟩ = some (.int .i64 ((J:Int) + 3)):=hcell 3 (by decide);have c0_4:wr.cell? ⟨b,off + k * 9 + 4,none⟩ = some (.int .i64 ((J:Int) + 4)):=hcell 4 (by decide);have c0_5:wr.cell? ⟨b,off + k * 9 + 5,none⟩ = some (.int .i64 ((J:Int) + 5)):=hcell 5 (by decide);have c0_6:wr.cell? ⟨b,off + k * 9 + 6,none⟩ = some (.slice ao6 (x k).rows.1 cap6):=hcell 6 (by decide);have c0_7:wr.cell? ⟨b,off + k * 9 + 7,none⟩ = some (.slice ao7 (x k).data.1 cap7):=hcell 7 (by decide);have c0_8:wr.cell? ⟨b,off + k * 9 + 8,none⟩ = some (.slice ao8 (x k).delta.1 cap8):=hcell 8 (by decide);have R0_6:Hid (layInts.rd wr hi ((mkInts (J + 6) (x k).rows)) [.slice ao6 (x k).rows.1 cap6]):=r6;have R0_7:Hid (layBytes.rd wr hi ((mkBytes (J + 6 + lenD (x k).rows) (x k).data)) [.slice ao7 (x k).data.1 cap7]):=r7;have R0_8:Hid (layBytes.rd wr hi ((mkBytes (J + 6 + lenD (x k).rows + lenD (x k).data) (x k).delta)) [.slice ao8 (x k).delta.1 cap8]):=r8;clear hcell r6 r7 r8;have HB0:Hid (Below w.heap.size w wr):=hb;clear hb;have C1:=markText_any (J + 2) (by omega) (by omega) (wr.drewN 1);go_wp2
      go_region_with (go_at_call 62;refine C1.mono ?_;rintro ee w1 ⟨rfl,bt⟩;have cx:w1.cell? ⟨b,off + k * 9 + 2,none⟩ = some (.string (markT (J + 2))):=(bt.cell (p:=⟨b,off + k * 9 + 2,none⟩) (by show b < wr.heap.size;omega)).trans c0_2)
      all_goals
        have bu:Below wr.heap.size wr w1:=(below_drewN (Below.refl wr.heap.size wr) 1).trans bt;have zt:wr.heap.size ≤ w1.heap.size:=bt.size;have c1_3:w1.cell? ⟨b,off + k * 9 + 3,none⟩ = some (.int .i64 ((J:Int) + 3)):=(bt.cell (p:=⟨b,off + k * 9 + 3,none⟩) (by show b < wr.heap.size;omega)).trans c0_3;have c1_4:w1.cell? ⟨b,off + k * 9 + 4,none⟩ = some (.int .i64 ((J:Int) + 4)):=(bt.cell (p:=⟨b,off + k * 9 + 4,none⟩) (by show b < wr.heap.size;omega)).trans c0_4;have c1_5:w1.cell? ⟨b,off + k * 9 + 5,none⟩ = some (.int .i64 ((J:Int) + 5)):=(bt.cell (p:=⟨b,off + k * 9 + 5,none⟩) (by show b < wr.heap.size;omega)).trans c0_5;have c1_6:w1.cell? ⟨b,off + k * 9 + 6,none⟩ = some (.slice ao6 (x k).rows.1 cap6):=(bt.cell (p:=⟨b,off + k * 9 + 6,none⟩) (by show b < wr.heap.size;omega)).trans c0_6;have c1_7:w1.cell? ⟨b,off + k * 9 + 7,none⟩ = some (.slice ao7 (x k).data.1 cap7):=(bt.cell (p:=⟨b,off + k * 9 + 7,none⟩) (by show b < wr.heap.size;omega)).trans c0_7;have c1_8:w1.cell? ⟨b,off + k * 9 + 8,none⟩ = some (.slice ao8 (x k).delta.1 cap8):=(bt.cell (p:=⟨b,off + k * 9 + 8,none⟩) (by show b < wr.heap.size;omega)).trans c0_8;have R1_6:Hid (layInts.rd w1 hi ((mkInts (J + 6) (x k).rows)) [.slice ao6 (x k).rows.1 cap6]):=layInts.rd_below R0_6.out bu (by show hi ≤ wr.heap.size;omega);have R1_7:Hid (layBytes.rd w1 hi ((mkBytes (J + 6 + lenD (x k).rows) (x k).data)) [.slice ao7 (x k).data.1 cap7]):=layBytes.rd_below R0_7.out bu (by show hi ≤ wr.heap.size;omega);have R1_8:Hid (layBytes.rd w1 hi ((mkBytes (J + 6 + lenD (x k).rows + lenD (x k).data) (x k).delta)) [.slice ao8 (x k).delta.1 cap8]):=layBytes.rd_below R0_8.out bu (by show hi ≤ wr.heap.size;omega);have HB1:Hid (Below w.heap.size w w1):=HB0.out.trans ((below_drewN (Below.refl wr.heap.size wr) 1).trans bt |>.mono HB0.out.size);clear bt bu C1
        go_wp2_with fail
        refine (heldInts_is _ (x k).rows hi (J + 6) _ R1_6.out (by omega) (by omega)).mono ?_;rintro e w2 ⟨rfl,b2⟩;have z2:w1.heap.size ≤ w2.heap.size:=b2.size
        have hz2:¬ (((J + 6 + lenD (x k).rows:Nat):Int) < 0):=by omega
        have c2_7:w2.cell? ⟨b,off + k * 9 + 7,none⟩ = some (.slice ao7 (x k).data.1 cap7):=(b2.cell (p:=⟨b,off + k * 9 + 7,none⟩) (by show b < w1.heap.size;omega)).trans c1_7;have c2_8:w2.cell? ⟨b,off + k * 9 + 8,none⟩ = some (.slice ao8 (x k).delta.1 cap8):=(b2.cell (p:=⟨b,off + k * 9 + 8,none⟩) (by show b < w1.heap.size;omega)).trans c1_8;have R2_7:Hid (layBytes.rd w2 hi ((mkBytes (J + 6 + lenD (x k).rows) (x k).data)) [.slice ao7 (x k).data.1 cap7]):=layBytes.rd_below R1_7.out b2 (by omega);have R2_8:Hid (layBytes.rd w2 hi ((mkBytes (J + 6 + lenD (x k).rows + lenD (x k).data) (x k).delta)) [.slice ao8 (x k).delta.1 cap8]):=layBytes.rd_below R1_8.out b2 (by omega);have HB2:Hid (Below w.heap.size w w2):=HB1.out.trans (b2.mono HB1.out.size);clear b2
        go_wp2_with fail
        refine (heldBytes_is _ (x k).data hi (J + 6 + lenD (x k).rows) _ R2_7.out (by omega) (by omega)).mono ?_;rintro e w3 ⟨rfl,b3⟩;have z3:w2.heap.size ≤ w3.heap.size:=b3.size
        have hz3:¬ (((J + 6 + lenD (x k).rows + lenD (x k).data:Nat):Int) < 0):=by omega
        have c3_8:w3.cell? ⟨b,off + k * 9 + 8,none⟩ = some (.slice ao8 (x k).delta.1 cap8):=(b3.cell (p:=⟨b,off + k * 9 + 8,none⟩) (by show b < w2.heap.size;omega)).trans c2_8;have R3_8:Hid (layBytes.rd w3 hi ((mkBytes (J + 6 + lenD (x k).rows + lenD (x k).data) (x k).delta)) [.slice ao8 (x k).delta.1 cap8]):=layBytes.rd_below R2_8.out b3 (by omega);have HB3:Hid (Below w.heap.size w w3):=HB2.out.trans (b3.mono HB2.out.size);clear b3
        go_wp2_with fail
        refine (heldBytes_is _ (x k).delta hi (J + 6 + lenD (x k).rows + lenD (x k).data) _ R3_8.out (by omega) (by omega)).mono ?_;rintro e w4 ⟨rfl,b4⟩;have z4:w3.heap.size ≤ w4.heap.size:=b4.size
        have hz4:¬ (((J + 6 + lenD (x k).rows + lenD (x k).data + lenD (x k).delta:Nat):Int) < 0):=by omega
        have HB4:Hid (Below w.heap.size w w4):=HB3.out.trans (b4.mono HB3.out.size);clear b4
        go_wp2_with fail
        go_roundw
        case rel =>
          exact ⟨k + 1,by omega,by go_num,val_eq (by
            have e1:=HJ.out;have e2:sumN (fun i => cRecD (x i)) (k + 1) = sumN (fun i => cRecD (x i)) k + cRecD (x k):=rfl;have e3:cRecD (x k) = 6 + lenD (x k).rows + lenD (x k).data + lenD (x k).delta:=rfl
            omega),HB4.out⟩
        case measure => simp [intOf];omega
    · obtain rfl:k = n:=by omega
      go_wp2;go_ret;exact ⟨rfl,hb⟩
set_option maxHeartbeats 8000000 in
set_option maxRecDepth 20000 in
theorem heldTapeS_is:HdS (layTape.slice 88) (cSl cTapeD) (mkSl cTapeD mkTapeD) 52:=fun v d hi j w h hhi hj => by
  obtain ⟨n,x⟩:=d;obtain ⟨ao,cap,hv,hm,hc⟩:=h;have hv':v = .slice ao n cap:=one_eq hv;subst hv';clear hv;have hj':j + sumN (fun i => cTapeD (x i)) n ≤ 100000000:=hj;have hm':n ≤ maxLen:=hm;have hc':n ≠ 0 → ∃ b off,ao = some ⟨b,off,none⟩ ∧ b < hi ∧ ∀ i,i < n → ∃ ce,layTape.rd w hi (mkTapeD (j + sumN (fun i => cTapeD (x i)) i) (x i)) ce ∧ ∀ jj,jj < layTape.sz → w.cell? ⟨b,off + (i * layTape.sz + jj),none⟩ = ce[jj]?:=hc;clear hc hm hj;unfold maxLen at hm'
  go_enter Try.func52,Try.ntmps52
  go_wp2
  go_loopw [1,5] (fun y i wr => ∃ k:Nat,k ≤ n ∧ i = .int .i64 k ∧ y = .int .i64 ((j + sumN (fun i => cTapeD (x i)) k:Nat):Int) ∧ Below w.heap.size w wr) (fun _ i _ => n - (intOf i).toNat)
  case atStart => exact ⟨0,Nat.zero_le _,rfl,rfl,Below.refl _ _⟩
  case round =>
    obtain ⟨k,hk,rfl,rfl,hb⟩:=hrel
    by_cases hlt:k < n
    · obtain ⟨b,off,rfl,hblt,hel⟩:=hc' (by omega)
      obtain ⟨ck,hrk,hcell⟩:=elem_rd (t:=0) (x:=fun i => mkTapeD (j + sumN (fun i => cTapeD (x i)) i) (x i)) hel hb hhi hblt hlt;have hs1:sumN (fun i => cTapeD (x i)) (k + 1) ≤ sumN (fun i => cTapeD (x i)) n:=sumN_mono _ (show k + 1 ≤ n from hlt);rw [sumN_succ] at hs1;have hrk1:layTape.rd wr hi (mkTapeD (j + sumN (fun i => cTapeD (x i)) k) (x k)) ck:=hrk;clear hrk;obtain ⟨J,hJ⟩:∃ J,J = j + sumN (fun i => cTapeD (x i)) k:=⟨_,rfl⟩
      have hJb:J + cTapeD (x k) ≤ 100000000:=by omega
      have HJ:Hid (J = j + sumN (fun i => cTapeD (x i)) k):=hJ;rw [← hJ] at hrk1 ⊢;clear hs1 hJ hc' hel;have zr:=hb.size;unfold cTapeD at hJb;obtain ⟨ao1,cap1,hck,r1⟩:=Tape_rd hrk1;subst hck;clear hrk1;have c0_0:wr.cell? ⟨b,off + k * 2,none⟩ = some (.bool (decide (J % 3 = 0))):=hcell 0 (by decide);have c0_1:wr.cell? ⟨b,off + k * 2 + 1,none⟩ = some (.slice ao1 (x k).recs.1 cap1):=hcell 1 (by decide);have R0_1:Hid ((layRec.slice 104).rd wr hi (((mkSl cRecD mkRecD) (J + 1) (x k).recs)) [.slice ao1 (x k).recs.1 cap1]):=r1;clear hcell r1;have hb3:((J:Int) % 3 == 0) = decide (J % 3 = 0):=b3_eq J;have HB0:Hid (Below w.heap.size w wr):=hb;clear hb
      go_wp2_with fail
      refine (heldRecS_is _ (x k).recs hi (J + 1) _ R0_1.out (by omega) (by omega)).mono ?_;rintro e w1 ⟨rfl,b1⟩;have z1:wr.heap.size ≤ w1.heap.size:=b1.size
      have hz1:¬ (((J + 1 + (cSl cRecD) (x k).recs:Nat):Int) < 0):=by omega
      have HB1:Hid (Below w.heap.size w w1):=HB0.out.trans (b1.mono HB0.out.size);clear b1
      go_wp2_with fail
      go_roundw
      case rel =>
        exact ⟨k + 1,by omega,by go_num,val_eq (by
          have e1:=HJ.out;have e2:sumN (fun i => cTapeD (x i)) (k + 1) = sumN (fun i => cTapeD (x i)) k + cTapeD (x k):=rfl;have e3:cTapeD (x k) = 1 + (cSl cRecD) (x k).recs:=rfl
          omega),HB1.out⟩
      case measure => simp [intOf];omega
    · obtain rfl:k = n:=by omega
      go_wp2;go_ret;exact ⟨rfl,hb⟩
end Go.Proofs.Ytcepcjkfdonclaa
namespace Go.Proofs.Ytcepcjkfdonclaa
open Go.RowKit F256
set_option maxHeartbeats 4000000 in
theorem heldWorld_is:HdV layWorld cvWorldD mkvWorldD 33:=fun cs d hi j w h hhi hj => by
  obtain ⟨ao1,cap1,ao2,cap2,ao3,cap3,rfl,r1,r2,r3,-⟩:=World_rd h;clear h;unfold cvWorldD at hj ⊢;have R1:Hid (((layDrive.slice 58).slice 55).rd w hi ((mkSl (cSl cDriveD) (mkSl cDriveD mkDriveD)) (j) d.groups) [.slice ao1 d.groups.1 cap1]):=r1;have R2:Hid (layInts.rd w hi (mkInts (j + (cSl (cSl cDriveD)) d.groups) d.on) [.slice ao2 d.on.1 cap2]):=r2;have R3:Hid ((layTape.slice 88).rd w hi ((mkSl cTapeD mkTapeD) (j + (cSl (cSl cDriveD)) d.groups + lenD d.on) d.tapes) [.slice ao3 d.tapes.1 cap3]):=r3;clear r1 r2 r3
  change Calls Try.prog 33 #[.agg #[.int .i64 (d.shape 0),.int .i64 (d.shape 1),.int .i64 (d.shape 2),.int .i64 (d.shape 3),.int .i64 (d.shape 4),.int .i64 (d.shape 5),.int .i64 (d.shape 6),.int .i64 (d.shape 7),.int .i64 (d.shape 8),.slice ao1 d.groups.1 cap1,.slice ao2 d.on.1 cap2,.slice ao3 d.tapes.1 cap3,.int .i64 d.writes,.int .i64 d.stop,.bool d.down],.int .i64 j] w _
  go_enter Try.func33,Try.ntmps33
  go_wp2_with fail
  have T0:=one_new w #[.int .i64 (d.shape 0),.int .i64 (d.shape 1),.int .i64 (d.shape 2),.int .i64 (d.shape 3),.int .i64 (d.shape 4),.int .i64 (d.shape 5),.int .i64 (d.shape 6),.int .i64 (d.shape 7),.int .i64 (d.shape 8),.slice ao1 d.groups.1 cap1,.slice ao2 d.on.1 cap2,.slice ao3 d.tapes.1 cap3,.int .i64 d.writes,.int .i64 d.stop,.bool d.down] 29;refine (heldDriveSS_is _ d.groups hi (j) _ (((layDrive.slice 58).slice 55).rd_below R1.out T0.bel hhi) (Nat.le_trans hhi T0.bel.size) (by omega)).mono ?_;rintro e w1 ⟨rfl,b1⟩;have T1:One w w1 #[.int .i64 (d.shape 0),.int .i64 (d.shape 1),.int .i64 (d.shape 2),.int .i64 (d.shape 3),.int .i64 (d.shape 4),.int .i64 (d.shape 5),.int .i64 (d.shape 6),.int .i64 (d.shape 7),.int .i64 (d.shape 8),.slice ao1 d.groups.1 cap1,.slice ao2 d.on.1 cap2,.slice ao3 d.tapes.1 cap3,.int .i64 d.writes,.int .i64 d.stop,.bool d.down] 29:=T0.call b1
  have hz1:¬ (((j + (cSl (cSl cDriveD)) d.groups:Nat):Int) < 0):=by omega
  have x1_10:w1.cell? ⟨w.heap.size,10,none⟩ = some (.slice ao2 d.on.1 cap2):=T1.b1.cell 10;clear b1
  go_wp2_with fail
  refine (heldInts_is _ d.on hi (j + (cSl (cSl cDriveD)) d.groups) _ (layInts.rd_below R2.out T1.bel hhi) (Nat.le_trans hhi T1.bel.size) (by omega)).mono ?_;rintro e w2 ⟨rfl,b2⟩;have T2:One w w2 #[.int .i64 (d.shape 0),.int .i64 (d.shape 1),.int .i64 (d.shape 2),.int .i64 (d.shape 3),.int .i64 (d.shape 4),.int .i64 (d.shape 5),.int .i64 (d.shape 6),.int .i64 (d.shape 7),.int .i64 (d.shape 8),.slice ao1 d.groups.1 cap1,.slice ao2 d.on.1 cap2,.slice ao3 d.tapes.1 cap3,.int .i64 d.writes,.int .i64 d.stop,.bool d.down] 29:=T1.call b2
  have hz2:¬ (((j + (cSl (cSl cDriveD)) d.groups + lenD d.on:Nat):Int) < 0):=by omega
  have x2_11:w2.cell? ⟨w.heap.size,11,none⟩ = some (.slice ao3 d.tapes.1 cap3):=T2.b1.cell 11;clear b2
  go_wp2_with fail
  refine (heldTapeS_is _ d.tapes hi (j + (cSl (cSl cDriveD)) d.groups + lenD d.on) _ ((layTape.slice 88).rd_below R3.out T2.bel hhi) (Nat.le_trans hhi T2.bel.size) (by omega)).mono ?_;rintro e w3 ⟨rfl,b3⟩;have T3:One w w3 #[.int .i64 (d.shape 0),.int .i64 (d.shape 1),.int .i64 (d.shape 2),.int .i64 (d.shape 3),.int .i64 (d.shape 4),.int .i64 (d.shape 5),.int .i64 (d.shape 6),.int .i64 (d.shape 7),.int .i64 (d.shape 8),.slice ao1 d.groups.1 cap1,.slice ao2 d.on.1 cap2,.slice ao3 d.tapes.1 cap3,.int .i64 d.writes,.int .i64 d.stop,.bool d.down] 29:=T2.call b3
  have hz3:¬ (((j + (cSl (cSl cDriveD)) d.groups + lenD d.on + (cSl cTapeD) d.tapes:Nat):Int) < 0):=by omega
  have HB:Hid (Below w.heap.size w w3):=T3.bel;clear b3 T3;go_wp2;go_ret;exact ⟨ret_eq (by omega),HB.out⟩
end Go.Proofs.Ytcepcjkfdonclaa
namespace Go.Proofs.Ytcepcjkfdonclaa
open Go.RowKit
theorem Box.allocd {w:World} {b:Nat} {cs:Array Value} {t:TypeId} (h:Box w b cs t) (o:Obj):Box (w.alloc o) b cs t:=(Below.heap_alloc w o b h.lt).trans h
end Go.Proofs.Ytcepcjkfdonclaa
namespace Go.Proofs.Ytcepcjkfdonclaa
open Go.RowKit F256
theorem nearest_any (x a b:Int) (w:World) :
    Calls Try.prog 36 #[.int .i64 x,.int .i64 a,.int .i64 b] w fun e w' => e = .returned (.int .i64 (max a (min x b))) ∧ w' = w:=by
  go_enter Try.func36,Try.ntmps36
  go_wp2;go_ret;exact ⟨rfl,rfl⟩
def nearZ (x a b:Int):Int:=max a (min x b)
theorem nearZ_iff (x a b:Int) (h:a ≤ b):x = nearZ x a b ↔ a ≤ x ∧ x ≤ b:=by
  unfold nearZ;omega
theorem nearest_z (x a b:Int) (w:World) :
    Calls Try.prog 36 #[.int .i64 x,.int .i64 a,.int .i64 b] w fun e w' => e = .returned (.int .i64 (nearZ x a b)) ∧ w' = w:=nearest_any x a b w
set_option maxRecDepth 20000 in
set_option maxHeartbeats 8000000 in
theorem nearestShape_any (a0 a1 a2 a3 a4 a5 a6 a7 a8:Int) (w:World) :
    Calls Try.prog 25 #[.agg #[.int .i64 a0,.int .i64 a1,.int .i64 a2,.int .i64 a3,.int .i64 a4,.int .i64 a5,.int .i64 a6,.int .i64 a7,.int .i64 a8]] w fun e w' => e = .returned (.agg #[.int .i64 (nearZ a0 1 4),.int .i64 (nearZ a1 0 2),.int .i64 (nearZ a2 1 3),.int .i64 (nearZ a3 0 2),.int .i64 (nearZ a4 1 6),.int .i64 (nearZ a5 1 6),.int .i64 (nearZ a6 1 4),.int .i64 (nearZ a7 1 6),.int .i64 (nearZ a8 0 400)]) ∧ Below w.heap.size w w':=by
  go_enter Try.func25,Try.ntmps25
  go_wp2_with fail
  have XA:=(box_new w #[.int .i64 a0,.int .i64 a1,.int .i64 a2,.int .i64 a3,.int .i64 a4,.int .i64 a5,.int .i64 a6,.int .i64 a7,.int .i64 a8] 24).allocd (.cells #[.int .i64 0,.int .i64 0,.int .i64 0,.int .i64 0,.int .i64 0,.int .i64 0,.int .i64 0,.int .i64 0,.int .i64 0] 24);have XZ:=box_new (w.alloc (.cells #[.int .i64 a0,.int .i64 a1,.int .i64 a2,.int .i64 a3,.int .i64 a4,.int .i64 a5,.int .i64 a6,.int .i64 a7,.int .i64 a8] 24)) #[.int .i64 0,.int .i64 0,.int .i64 0,.int .i64 0,.int .i64 0,.int .i64 0,.int .i64 0,.int .i64 0,.int .i64 0] 24
  have hz:(w.alloc (.cells #[.int .i64 a0,.int .i64 a1,.int .i64 a2,.int .i64 a3,.int .i64 a4,.int .i64 a5,.int .i64 a6,.int .i64 a7,.int .i64 a8] 24)).heap.size = w.heap.size + 1:=by simp
  rw [hz] at XZ;have BA:Below w.heap.size w ((w.alloc (.cells #[.int .i64 a0,.int .i64 a1,.int .i64 a2,.int .i64 a3,.int .i64 a4,.int .i64 a5,.int .i64 a6,.int .i64 a7,.int .i64 a8] 24)).alloc (.cells #[.int .i64 0,.int .i64 0,.int .i64 0,.int .i64 0,.int .i64 0,.int .i64 0,.int .i64 0,.int .i64 0,.int .i64 0] 24)):=((Below.refl _ _).alloc (Nat.le_refl _) _).alloc (by simp) _;obtain ⟨wA,hwA⟩:∃ x,x = (w.alloc (.cells #[.int .i64 a0,.int .i64 a1,.int .i64 a2,.int .i64 a3,.int .i64 a4,.int .i64 a5,.int .i64 a6,.int .i64 a7,.int .i64 a8] 24)).alloc (.cells #[.int .i64 0,.int .i64 0,.int .i64 0,.int .i64 0,.int .i64 0,.int .i64 0,.int .i64 0,.int .i64 0,.int .i64 0] 24):=⟨_,rfl⟩;rw [← hwA] at XA XZ BA ⊢;clear hwA hz;refine wp_region_still_tail 28 (by kernel_rfl) (by kernel_rfl) ?_;have XA':Box { wA with drawn:=wA.drawn + 1 } w.heap.size #[.int .i64 a0,.int .i64 a1,.int .i64 a2,.int .i64 a3,.int .i64 a4,.int .i64 a5,.int .i64 a6,.int .i64 a7,.int .i64 a8] 24:=XA;have XZ':Box { wA with drawn:=wA.drawn + 1 } (w.heap.size + 1) #[.int .i64 0,.int .i64 0,.int .i64 0,.int .i64 0,.int .i64 0,.int .i64 0,.int .i64 0,.int .i64 0,.int .i64 0] 24:=XZ;have BA':Below w.heap.size w { wA with drawn:=wA.drawn + 1 }:=⟨BA.os,BA.tape,BA.output,BA.size,BA.block⟩;obtain ⟨wB,hwB⟩:∃ x:World,x = { wA with drawn:=wA.drawn + 1 }:=⟨_,rfl⟩;rw [← hwB] at XA' XZ' BA' ⊢;clear XA XZ BA hwB;obtain ⟨x0,x1,x2,x3,x4,x5,x6,x7,x8⟩:=box9 XA';obtain ⟨y0,y1,y2,y3,y4,y5,y6,y7,y8⟩:=box9 XZ'
  simp only [List.take_succ_cons,List.take_zero,List.drop_succ_cons,List.drop_zero]
  still_step
  still_step
  still_call (nearest_z _ _ _ _)
  still_step
  still_step
  still_call (nearest_z _ _ _ _)
  still_step
  still_step
  still_call (nearest_z _ _ _ _)
  still_step
  still_step
  still_call (nearest_z _ _ _ _)
  still_step
  still_step
  still_call (nearest_z _ _ _ _)
  still_step
  still_step
  still_call (nearest_z _ _ _ _)
  still_step
  still_step
  still_call (nearest_z _ _ _ _)
  still_step
  still_step
  still_call (nearest_z _ _ _ _)
  still_step
  still_step
  still_call (nearest_z _ _ _ _)
  still_step
  refine wpStill_nil ?_;have z0:wB.frozen? ⟨w.heap.size + 1,0,none⟩ = false:=XZ'.frozen 0;have z1:wB.frozen? ⟨w.heap.size + 1,1,none⟩ = false:=XZ'.frozen 1;have z2:wB.frozen? ⟨w.heap.size + 1,2,none⟩ = false:=XZ'.frozen 2;have z3:wB.frozen? ⟨w.heap.size + 1,3,none⟩ = false:=XZ'.frozen 3;have z4:wB.frozen? ⟨w.heap.size + 1,4,none⟩ = false:=XZ'.frozen 4;have z5:wB.frozen? ⟨w.heap.size + 1,5,none⟩ = false:=XZ'.frozen 5;have z6:wB.frozen? ⟨w.heap.size + 1,6,none⟩ = false:=XZ'.frozen 6;have z7:wB.frozen? ⟨w.heap.size + 1,7,none⟩ = false:=XZ'.frozen 7;have z8:wB.frozen? ⟨w.heap.size + 1,8,none⟩ = false:=XZ'.frozen 8;go_wp2;refine bodyPost_ret (v:=.agg #[.int .i64 (nearZ a0 1 4),.int .i64 (nearZ a1 0 2),.int .i64 (nearZ a2 1 3),.int .i64 (nearZ a3 0 2),.int .i64 (nearZ a4 1 6),.int .i64 (nearZ a5 1 6),.int .i64 (nearZ a6 1 4),.int .i64 (nearZ a7 1 6),.int .i64 (nearZ a8 0 400)]) (by simp [results,Try.results25,go_sem,y0,y1,y2,y3,y4,y5,y6,y7,y8]) rfl ⟨rfl,?_⟩;exact (((((((((BA'.setCell (Nat.le_succ _) _).setCell (Nat.le_succ _) _).setCell (Nat.le_succ _) _).setCell (Nat.le_succ _) _).setCell (Nat.le_succ _) _).setCell (Nat.le_succ _) _).setCell (Nat.le_succ _) _).setCell (Nat.le_succ _) _).setCell (Nat.le_succ _) _)
end Go.Proofs.Ytcepcjkfdonclaa
namespace Go.Proofs.Ytcepcjkfdonclaa
open Go.RowKit F256
theorem shape_eq_yes (a0 a1 a2 a3 a4 a5 a6 a7 a8:Int) (w:World):(Op.equalIn 10000 24 (.agg #[.int .i64 a0,.int .i64 a1,.int .i64 a2,.int .i64 a3,.int .i64 a4,.int .i64 a5,.int .i64 a6,.int .i64 a7,.int .i64 a8]) (.agg #[.int .i64 a0,.int .i64 a1,.int .i64 a2,.int .i64 a3,.int .i64 a4,.int .i64 a5,.int .i64 a6,.int .i64 a7,.int .i64 a8])).run Try.prog w = .ok true w:=by
  have u3:=Try.underlying2;rw [show (10000:Nat) = 9999 + 1 from rfl,run_equalIn_agg w 9999 24 _ _ (by kernel_rfl) (by kernel_rfl)]
  simp only [Program.fieldsOf,Try.underlying24]
  go_simp
theorem shape_eq_no (a0 a1 a2 a3 a4 a5 a6 a7 a8 b0 b1 b2 b3 b4 b5 b6 b7 b8:Int) (h:¬ (a0 = b0 ∧ a1 = b1 ∧ a2 = b2 ∧ a3 = b3 ∧ a4 = b4 ∧ a5 = b5 ∧ a6 = b6 ∧ a7 = b7 ∧ a8 = b8)) (w:World):(Op.equalIn 10000 24 (.agg #[.int .i64 a0,.int .i64 a1,.int .i64 a2,.int .i64 a3,.int .i64 a4,.int .i64 a5,.int .i64 a6,.int .i64 a7,.int .i64 a8]) (.agg #[.int .i64 b0,.int .i64 b1,.int .i64 b2,.int .i64 b3,.int .i64 b4,.int .i64 b5,.int .i64 b6,.int .i64 b7,.int .i64 b8])).run Try.prog w = .ok false w:=by
  have u3:=Try.underlying2;rw [show (10000:Nat) = 9999 + 1 from rfl,run_equalIn_agg w 9999 24 _ _ (by kernel_rfl) (by kernel_rfl)]
  simp only [Program.fieldsOf,Try.underlying24]
  have H:Hid (¬ (a0 = b0 ∧ a1 = b1 ∧ a2 = b2 ∧ a3 = b3 ∧ a4 = b4 ∧ a5 = b5 ∧ a6 = b6 ∧ a7 = b7 ∧ a8 = b8)):=h;clear h;go_simp;exact fun h0 h1 h2 h3 h4 h5 h6 h7 h8 => H.out ⟨h0,h1,h2,h3,h4,h5,h6,h7,h8⟩
theorem ok_near (s:Nat → Int):OkShape s ↔ s 0 = nearZ (s 0) 1 4 ∧ s 1 = nearZ (s 1) 0 2 ∧ s 2 = nearZ (s 2) 1 3 ∧ s 3 = nearZ (s 3) 0 2 ∧ s 4 = nearZ (s 4) 1 6 ∧ s 5 = nearZ (s 5) 1 6 ∧ s 6 = nearZ (s 6) 1 4 ∧ s 7 = nearZ (s 7) 1 6 ∧ s 8 = nearZ (s 8) 0 400:=by
  unfold OkShape Shp3 Shp;rw [nearZ_iff (s 0) 1 4 (by omega),nearZ_iff (s 1) 0 2 (by omega),nearZ_iff (s 2) 1 3 (by omega),nearZ_iff (s 3) 0 2 (by omega),nearZ_iff (s 4) 1 6 (by omega),nearZ_iff (s 5) 1 6 (by omega),nearZ_iff (s 6) 1 4 (by omega),nearZ_iff (s 7) 1 6 (by omega),nearZ_iff (s 8) 0 400 (by omega)];omega
set_option maxHeartbeats 4000000 in
theorem implShape_any (s:Nat → Int) (w:World) :
    Calls Try.prog 13 #[shapeV s] w fun e w' => ∃ x,e = .returned (.int .i64 x) ∧ ShFAns s x ∧ Below w.heap.size w w':=by
  have HK:Hid (OkShape s ↔ s 0 = nearZ (s 0) 1 4 ∧ s 1 = nearZ (s 1) 0 2 ∧ s 2 = nearZ (s 2) 1 3 ∧ s 3 = nearZ (s 3) 0 2 ∧ s 4 = nearZ (s 4) 1 6 ∧ s 5 = nearZ (s 5) 1 6 ∧ s 6 = nearZ (s 6) 1 4 ∧ s 7 = nearZ (s 7) 1 6 ∧ s 8 = nearZ (s 8) 0 400):=ok_near s;unfold shapeV;obtain ⟨a0,h0⟩:∃ a,a = s 0:=⟨_,rfl⟩;obtain ⟨a1,h1⟩:∃ a,a = s 1:=⟨_,rfl⟩;obtain ⟨a2,h2⟩:∃ a,a = s 2:=⟨_,rfl⟩;obtain ⟨a3,h3⟩:∃ a,a = s 3:=⟨_,rfl⟩;obtain ⟨a4,h4⟩:∃ a,a = s 4:=⟨_,rfl⟩;obtain ⟨a5,h5⟩:∃ a,a = s 5:=⟨_,rfl⟩;obtain ⟨a6,h6⟩:∃ a,a = s 6:=⟨_,rfl⟩;obtain ⟨a7,h7⟩:∃ a,a = s 7:=⟨_,rfl⟩;obtain ⟨a8,h8⟩:∃ a,a = s 8:=⟨_,rfl⟩;rw [← h0,← h1,← h2,← h3,← h4,← h5,← h6,← h7,← h8]
  have HK2:Hid (OkShape s ↔ a0 = nearZ a0 1 4 ∧ a1 = nearZ a1 0 2 ∧ a2 = nearZ a2 1 3 ∧ a3 = nearZ a3 0 2 ∧ a4 = nearZ a4 1 6 ∧ a5 = nearZ a5 1 6 ∧ a6 = nearZ a6 1 4 ∧ a7 = nearZ a7 1 6 ∧ a8 = nearZ a8 0 400):=by
    show OkShape s ↔ _
    rw [h0,h1,h2,h3,h4,h5,h6,h7,h8];exact HK.out
  clear HK h0 h1 h2 h3 h4 h5 h6 h7 h8;have CN:=nearestShape_any a0 a1 a2 a3 a4 a5 a6 a7 a8;have XA:=box_new w #[.int .i64 a0,.int .i64 a1,.int .i64 a2,.int .i64 a3,.int .i64 a4,.int .i64 a5,.int .i64 a6,.int .i64 a7,.int .i64 a8] 24;obtain ⟨x0,x1,x2,x3,x4,x5,x6,x7,x8⟩:=box9 XA;have HX:Hid (Box (w.alloc (.cells #[.int .i64 a0,.int .i64 a1,.int .i64 a2,.int .i64 a3,.int .i64 a4,.int .i64 a5,.int .i64 a6,.int .i64 a7,.int .i64 a8] 24)) w.heap.size #[.int .i64 a0,.int .i64 a1,.int .i64 a2,.int .i64 a3,.int .i64 a4,.int .i64 a5,.int .i64 a6,.int .i64 a7,.int .i64 a8] 24):=XA;have HB:Hid (Below w.heap.size w (w.alloc (.cells #[.int .i64 a0,.int .i64 a1,.int .i64 a2,.int .i64 a3,.int .i64 a4,.int .i64 a5,.int .i64 a6,.int .i64 a7,.int .i64 a8] 24))):=bnew (Below.refl _ _);obtain ⟨wA,hwA⟩:∃ x,x = w.alloc (.cells #[.int .i64 a0,.int .i64 a1,.int .i64 a2,.int .i64 a3,.int .i64 a4,.int .i64 a5,.int .i64 a6,.int .i64 a7,.int .i64 a8] 24):=⟨_,rfl⟩;rw [← hwA] at x0 x1 x2 x3 x4 x5 x6 x7 x8 HX HB;clear XA
  by_cases ok:OkShape s
  · have HO:Hid (OkShape s):=ok
    obtain ⟨e0,e1,e2,e3,e4,e5,e6,e7,e8⟩:=HK2.out.mp ok;rw [← e0,← e1,← e2,← e3,← e4,← e5,← e6,← e7,← e8] at CN;have heq:=shape_eq_yes a0 a1 a2 a3 a4 a5 a6 a7 a8;clear e0 e1 e2 e3 e4 e5 e6 e7 e8 ok
    go_enter Try.func13,Try.ntmps13
    go_wp2_with fail
    rw [← hwA];clear hwA
    go_region_with (go_at_call 25;refine (CN _).mono ?_;rintro ee w2 ⟨rfl,hb2⟩;have hB2:Below wA.heap.size wA w2:=⟨hb2.os,hb2.tape,hb2.output,hb2.size,hb2.block⟩;obtain ⟨y0,y1,y2,y3,y4,y5,y6,y7,y8⟩:=box9 (HX.out.below hB2 HX.out.lt))
    all_goals
      go_wp2;go_ret;exact ⟨0,rfl,.inr ⟨rfl,HO.out⟩,HB.out.trans (hB2.mono HB.out.size)⟩
  · have HO:Hid (¬ OkShape s):=ok
    have hno:¬ (a0 = nearZ a0 1 4 ∧ a1 = nearZ a1 0 2 ∧ a2 = nearZ a2 1 3 ∧ a3 = nearZ a3 0 2 ∧ a4 = nearZ a4 1 6 ∧ a5 = nearZ a5 1 6 ∧ a6 = nearZ a6 1 4 ∧ a7 = nearZ a7 1 6 ∧ a8 = nearZ a8 0 400):=fun h => ok (HK2.out.mpr h);have heq:=shape_eq_no a0 a1 a2 a3 a4 a5 a6 a7 a8 (nearZ a0 1 4) (nearZ a1 0 2) (nearZ a2 1 3) (nearZ a3 0 2) (nearZ a4 1 6) (nearZ a5 1 6) (nearZ a6 1 4) (nearZ a7 1 6) (nearZ a8 0 400) hno;clear hno ok
    go_enter Try.func13,Try.ntmps13
    go_wp2_with fail
    rw [← hwA];clear hwA
    go_region_with (go_at_call 25;refine (CN _).mono ?_;rintro ee w2 ⟨rfl,hb2⟩;have hB2:Below wA.heap.size wA w2:=⟨hb2.os,hb2.tape,hb2.output,hb2.size,hb2.block⟩;obtain ⟨y0,y1,y2,y3,y4,y5,y6,y7,y8⟩:=box9 (HX.out.below hB2 HX.out.lt))
    all_goals
      go_wp2;go_ret;exact ⟨3,rfl,.inl ⟨rfl,HO.out⟩,HB.out.trans (hB2.mono HB.out.size)⟩
end Go.Proofs.Ytcepcjkfdonclaa
namespace Go.Proofs.Ytcepcjkfdonclaa
open Go.RowKit F256
def nameByte (b:ByteArray) (i:Nat):Nat:=if h:i < b.size then (b[i]'h).toNat else 0
def LetP (y:Nat):Prop:=97 ≤ y ∧ y ≤ 122
def DigP (y:Nat):Prop:=48 ≤ y ∧ y ≤ 57
def OkName (b:ByteArray):Prop:=1 ≤ b.size ∧ b.size ≤ 8 ∧ LetP (nameByte b 0) ∧ ∀ i,i < b.size → LetP (nameByte b i) ∨ DigP (nameByte b i)
end Go.Proofs.Ytcepcjkfdonclaa