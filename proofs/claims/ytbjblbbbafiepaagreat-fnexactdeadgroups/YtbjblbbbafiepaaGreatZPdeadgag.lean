/- Walk of the specification's WorldFault where the form of a world has no fault; and whole. -/
import Derived.Test.YtbjblbbbafiepaaGreatZPdeadgaf
import Derived.Test.YtbjblbbbafiepaaGreatZPdeadgae
import Derived.Deep.DeepCutAuto
import Derived.Test.YtbjblbbbafiepaaGreatZPdeadgad
import Derived.Test.YtbjblbbbafiepaaGreatZPdeadgaa
import Derived.OrdersHeld
import Derived.Deep.RegionHeld
import Derived.Test.YtbjblbbbafiepaaGreatZPdeadgac
import Derived.Test.YtbjblbbbafiepaaGreatRows
import Derived.Deep.RegionLaw
set_option linter.unusedVariables false
set_option linter.unusedSimpArgs false
namespace Go.Proofs.YtbjblbbbafiepaaGreat
open Go.RowKit F256
set_option maxHeartbeats 16000000 in
set_option maxRecDepth 20000 in
theorem specWorld_D (d:WorldD) (cs:List Value) (hi:Nat) (w:World) (h:layWorld.rd w hi d cs) (hhi:hi ≤ w.heap.size) (hnm:∀ t,t < d.tapes.1 → ∀ i,i < (d.tapes.2 t).recs.1 → ((d.tapes.2 t).recs.2 i).name.size ≤ 1048576) (hok':OkShape d.shape) (hsel:FormP d) :
    Calls Tryz.prog 26 #[.agg cs.toArray] w (WldPost d w):=by
  obtain ⟨ao1,cap1,ao2,cap2,ao3,cap3,rfl,g1,g2,g3,-⟩:=World_rd h;have HRD:Hid (layWorld.rd w hi d [.int .i64 (d.shape 0),.int .i64 (d.shape 1),.int .i64 (d.shape 2),.int .i64 (d.shape 3),.int .i64 (d.shape 4),.int .i64 (d.shape 5),.int .i64 (d.shape 6),.int .i64 (d.shape 7),.int .i64 (d.shape 8),.slice ao1 d.groups.1 cap1,.slice ao2 d.on.1 cap2,.slice ao3 d.tapes.1 cap3,.int .i64 d.writes,.int .i64 d.stop,.bool d.down]):=h;obtain ⟨v2,e2,⟨h2,hcp2⟩,_⟩:=g2
  cases e2
  have H2:Hid (RdI w hi (.slice ao2 d.on.1 cap2) d.on.1 d.on.2):=h2;have HCP:Hid (CapP (.slice ao2 d.on.1 cap2) d.on.1):=hcp2;have hm2:=h2.mx;obtain ⟨_,_,e3,hm3,hc3⟩:=g3
  cases e3
  unfold maxLen at hm2 hm3;have HC3:Hid (d.tapes.1 ≠ 0 → ∃ b off,ao3 = some ⟨b,off,none⟩ ∧ b < hi ∧ ∀ i,i < d.tapes.1 → ∃ ce,layTape.rd w hi (d.tapes.2 i) ce ∧ ∀ j,j < layTape.sz → w.cell? ⟨b,off + (i * layTape.sz + j),none⟩ = ce[j]?):=hc3;have HNM:Hid (∀ t,t < d.tapes.1 → ∀ i,i < (d.tapes.2 t).recs.1 → ((d.tapes.2 t).recs.2 i).name.size ≤ 1048576):=hnm;clear h h2 hcp2 hc3 g1 hnm;have T0:=one_new w #[.int .i64 (d.shape 0),.int .i64 (d.shape 1),.int .i64 (d.shape 2),.int .i64 (d.shape 3),.int .i64 (d.shape 4),.int .i64 (d.shape 5),.int .i64 (d.shape 6),.int .i64 (d.shape 7),.int .i64 (d.shape 8),.slice ao1 d.groups.1 cap1,.slice ao2 d.on.1 cap2,.slice ao3 d.tapes.1 cap3,.int .i64 d.writes,.int .i64 d.stop,.bool d.down] 37;have CSh:=fun w' => specShape_any d.shape w';unfold shapeV at CSh
  go_enter Tryz.func26,Tryz.ntmps26
  go_wp2_with fail
  refine (CSh _).mono ?_;rintro e w1 ⟨x,rfl,hx,b1⟩;have T1:One w w1 #[.int .i64 (d.shape 0),.int .i64 (d.shape 1),.int .i64 (d.shape 2),.int .i64 (d.shape 3),.int .i64 (d.shape 4),.int .i64 (d.shape 5),.int .i64 (d.shape 6),.int .i64 (d.shape 7),.int .i64 (d.shape 8),.slice ao1 d.groups.1 cap1,.slice ao2 d.on.1 cap2,.slice ao3 d.tapes.1 cap3,.int .i64 d.writes,.int .i64 d.stop,.bool d.down] 37:=T0.call b1;have HT1:Hid (One w w1 #[.int .i64 (d.shape 0),.int .i64 (d.shape 1),.int .i64 (d.shape 2),.int .i64 (d.shape 3),.int .i64 (d.shape 4),.int .i64 (d.shape 5),.int .i64 (d.shape 6),.int .i64 (d.shape 7),.int .i64 (d.shape 8),.slice ao1 d.groups.1 cap1,.slice ao2 d.on.1 cap2,.slice ao3 d.tapes.1 cap3,.int .i64 d.writes,.int .i64 d.stop,.bool d.down] 37):=T1;clear b1 T0 CSh;have x1_0:w1.cell? ⟨w.heap.size,0,none⟩ = some (.int .i64 (d.shape 0)):=T1.b1.cell 0;have kx1_0:=cell_regrown x1_0;have x1_1:w1.cell? ⟨w.heap.size,1,none⟩ = some (.int .i64 (d.shape 1)):=T1.b1.cell 1;have kx1_1:=cell_regrown x1_1;have x1_2:w1.cell? ⟨w.heap.size,2,none⟩ = some (.int .i64 (d.shape 2)):=T1.b1.cell 2;have kx1_2:=cell_regrown x1_2;have x1_3:w1.cell? ⟨w.heap.size,3,none⟩ = some (.int .i64 (d.shape 3)):=T1.b1.cell 3;have kx1_3:=cell_regrown x1_3;have x1_4:w1.cell? ⟨w.heap.size,4,none⟩ = some (.int .i64 (d.shape 4)):=T1.b1.cell 4;have kx1_4:=cell_regrown x1_4;have x1_5:w1.cell? ⟨w.heap.size,5,none⟩ = some (.int .i64 (d.shape 5)):=T1.b1.cell 5;have kx1_5:=cell_regrown x1_5;have x1_6:w1.cell? ⟨w.heap.size,6,none⟩ = some (.int .i64 (d.shape 6)):=T1.b1.cell 6;have kx1_6:=cell_regrown x1_6;have x1_7:w1.cell? ⟨w.heap.size,7,none⟩ = some (.int .i64 (d.shape 7)):=T1.b1.cell 7;have kx1_7:=cell_regrown x1_7;have x1_8:w1.cell? ⟨w.heap.size,8,none⟩ = some (.int .i64 (d.shape 8)):=T1.b1.cell 8;have kx1_8:=cell_regrown x1_8;have x1_9:w1.cell? ⟨w.heap.size,9,none⟩ = some (.slice ao1 d.groups.1 cap1):=T1.b1.cell 9;have kx1_9:=cell_regrown x1_9;have x1_10:w1.cell? ⟨w.heap.size,10,none⟩ = some (.slice ao2 d.on.1 cap2):=T1.b1.cell 10;have kx1_10:=cell_regrown x1_10;have x1_11:w1.cell? ⟨w.heap.size,11,none⟩ = some (.slice ao3 d.tapes.1 cap3):=T1.b1.cell 11;have kx1_11:=cell_regrown x1_11;have x1_12:w1.cell? ⟨w.heap.size,12,none⟩ = some (.int .i64 d.writes):=T1.b1.cell 12;have kx1_12:=cell_regrown x1_12;have x1_13:w1.cell? ⟨w.heap.size,13,none⟩ = some (.int .i64 d.stop):=T1.b1.cell 13;have kx1_13:=cell_regrown x1_13;have x1_14:w1.cell? ⟨w.heap.size,14,none⟩ = some (.bool d.down):=T1.b1.cell 14;have kx1_14:=cell_regrown x1_14;clear T1
  rcases hx with ⟨rfl,hno⟩ | ⟨rfl,hok⟩
  · go_wp2
    go_ret;exact wldP rfl (Stair.fall hno) HT1.out.bel
  have HOK:Hid (OkShape d.shape):=hok
  have hsb:1 ≤ d.shape 0 ∧ d.shape 0 ≤ 4 ∧ 0 ≤ d.shape 1 ∧ d.shape 1 ≤ 2:=by
    obtain ⟨h1,_⟩:=hok;unfold Shp3 at h1;omega
  clear hok;obtain ⟨t1,h1⟩:=exB (BuiltP d);obtain ⟨t2,h2⟩:=exB (ApartP d.on.1 d.on.2 (d.shape 0 + d.shape 1 - 1));obtain ⟨b3',h3⟩:∃ b,decide (d.shape 5 < (d.on.1:Int)) = b:=⟨_,rfl⟩;obtain ⟨g',h4⟩:∃ b,decide (0 < d.on.1) = b:=⟨_,rfl⟩;obtain ⟨b5',h5⟩:∃ b,((d.tapes.1:Int) != 2) = b:=⟨_,rfl⟩;have c1:=q_below (W:=w1) (fun w' hw' => det_b (l5Built_any d HOK.out _ hi w' (layWorld.rd_below (layWorld.rd_below HRD.out HT1.out.bel hhi) hw' (Nat.le_trans hhi HT1.out.bel.size)) (Nat.le_trans hhi (Nat.le_trans HT1.out.bel.size hw'.size))) h1);have c2:=q_below (W:=w1) (fun w' hw' => det_b (l5Apart_any _ d.on.1 d.on.2 hi (d.shape 0 + d.shape 1 - 1) w' ((H2.out.below HT1.out.bel hhi).below hw' (Nat.le_trans hhi HT1.out.bel.size)) HCP.out (Nat.le_trans hhi (Nat.le_trans HT1.out.bel.size hw'.size))) h2);have cA:=q_below (W:=w1) (fun w' _ => l5All_any d.shape HOK.out w');unfold shapeV at cA
  have wsA:IntKind.i64.wrap (d.shape 0 + d.shape 1 - 1) = d.shape 0 + d.shape 1 - 1:=by rw [IntKind.wrap_i64];omega
  have h4':decide (0 < (d.on.1:Int)) = g':=by rw [← h4];simp
  obtain ⟨dn,hdn⟩:∃ x,x = d.down:=⟨_,rfl⟩
  have HE:Hid (FormP d ↔ (t1 = true ∧ t2 = true ∧ b3' = false ∧ (dn = true → g' = false) ∧ b5' = false)):=by
    show FormP d ↔ _
    have e3:(decide (d.shape 5 < (d.on.1:Int)) = false) ↔ (d.on.1:Int) ≤ d.shape 5:=by simp
    have e4:(decide (0 < d.on.1) = false) ↔ d.on.1 = 0:=by simp
    have e5:(((d.tapes.1:Int) != 2) = false) ↔ d.tapes.1 = 2:=by simp;omega
    rw [h1,h2,← h3,← h4,← h5,hdn,e3,e4,e5];unfold FormP OnP
    constructor
    · rintro ⟨a,⟨b,c,e⟩,f⟩
      exact ⟨a,b,c,e,f⟩
    · rintro ⟨a,b,c,e,f⟩
      exact ⟨a,⟨b,c,e⟩,f⟩
  have hst:(t1 = true ∧ t2 = true ∧ b3' = false ∧ dn = true ∧ g' = false ∧ b5' = false) ∨ (t1 = true ∧ t2 = true ∧ b3' = false ∧ dn = false ∧ b5' = false):=by
    obtain ⟨a1,a2,a3,a4,a5⟩:=HE.out.1 hsel
    cases dn with
    | true => exact .inl ⟨a1,a2,a3,rfl,a4 rfl,a5⟩
    | false => exact .inr ⟨a1,a2,a3,rfl,a5⟩
  have HFM:Hid (FormP d):=hsel;have htp:d.tapes.1 = 2:=hsel.2.2;have HTP:Hid (d.tapes.1 = 2):=htp;rw [← hdn] at x1_14 kx1_14 c1;clear h1 h2 hsel hok' htp HE
  go_upto_region 4 with fail
  go_cut [51] (fun v wx => v = .bool false ∧ Below w1.heap.size w1 wx)
  case first =>
    clear hdn
    rcases hst with ⟨rfl,rfl,rfl,rfl,rfl,rfl⟩ | ⟨rfl,rfl,rfl,rfl,rfl⟩
    all_goals
      refine WQ.region (by kernel_rfl) (by kernel_rfl) ?_
      repeat (first | (apply WQ.free;(case hw => rfl);intro K hK;go_simp;first | (apply hK;clear hK K) | (apply Exists.intro;apply And.intro;(case left => intro p;(first | (go_at_call 56;exact c1 _ _) | (go_at_call 57;exact c2 _ _) | (go_at_call 27;exact cA _ _)));apply hK;clear hK K)) | (apply WQ.skip;(case hw => rfl);intro K hK;go_simp;apply hK;clear hK K) | (apply WQ.want;(case hw => rfl);intro K hK;go_simp;first | (apply hK;clear hK K) | (apply Exists.intro;apply And.intro;(case left => intro p;(first | (go_at_call 56;exact c1 _ _) | (go_at_call 57;exact c2 _ _) | (go_at_call 27;exact cA _ _)));apply hK;clear hK K)))
      refine WQ.nil ?_;intro w2 hw2;have HB2:Hid (Below w1.heap.size w1 w2):=below_rg hw2;clear hw2;go_wp2
      go_meet
      exact ⟨rfl,HB2.out⟩
  case rest =>
    obtain ⟨rfl,b2⟩:=hcut;obtain ⟨w2,rfl⟩:∃ x,x = wc:=⟨_,rfl⟩;have T2:One w w2 #[.int .i64 (d.shape 0),.int .i64 (d.shape 1),.int .i64 (d.shape 2),.int .i64 (d.shape 3),.int .i64 (d.shape 4),.int .i64 (d.shape 5),.int .i64 (d.shape 6),.int .i64 (d.shape 7),.int .i64 (d.shape 8),.slice ao1 d.groups.1 cap1,.slice ao2 d.on.1 cap2,.slice ao3 d.tapes.1 cap3,.int .i64 d.writes,.int .i64 d.stop,.bool d.down] 37:=HT1.out.call b2
    rw [hdn] at *
    clear x1_0 kx1_0 x1_1 kx1_1 x1_2 kx1_2 x1_3 kx1_3 x1_4 kx1_4 x1_5 kx1_5 x1_6 kx1_6 x1_7 kx1_7 x1_8 kx1_8 x1_9 kx1_9 x1_10 kx1_10 x1_11 kx1_11 x1_12 kx1_12 x1_13 kx1_13 x1_14 kx1_14 c1 c2 cA hst h3 h4 h4' h5 b2 HT1 wsA hdn;obtain ⟨b3,off3,he3,hb3,hel3⟩:=HC3.out (by have:=HTP.out;omega);subst he3;have HT2:Hid (One w w2 #[.int .i64 (d.shape 0),.int .i64 (d.shape 1),.int .i64 (d.shape 2),.int .i64 (d.shape 3),.int .i64 (d.shape 4),.int .i64 (d.shape 5),.int .i64 (d.shape 6),.int .i64 (d.shape 7),.int .i64 (d.shape 8),.slice ao1 d.groups.1 cap1,.slice ao2 d.on.1 cap2,.slice (some ⟨b3,off3,none⟩) d.tapes.1 cap3,.int .i64 d.writes,.int .i64 d.stop,.bool d.down] 37):=T2;have HEL:Hid (∀ i,i < d.tapes.1 → ∃ ce,layTape.rd w hi (d.tapes.2 i) ce ∧ ∀ j,j < layTape.sz → w.cell? ⟨b3,off3 + (i * layTape.sz + j),none⟩ = ce[j]?):=hel3;obtain ⟨ce0,hr0,hce0⟩:=elem_rd (t:=0) hel3 T2.bel hhi hb3 (show 0 < d.tapes.1 by have:=HTP.out;omega);obtain ⟨ce1,hr1,hce1⟩:=elem_rd (t:=0) hel3 T2.bel hhi hb3 (show 1 < d.tapes.1 by have:=HTP.out;omega);obtain ⟨ap0,cp0,rfl,gt0⟩:=Tape_rd hr0;obtain ⟨ap1,cp1,rfl,gt1⟩:=Tape_rd hr1
    have hl0:(d.tapes.2 0).recs.1 ≤ maxLen:=by obtain ⟨_,_,_,h,_⟩:=gt0;exact h
    have hl1:(d.tapes.2 1).recs.1 ≤ maxLen:=by obtain ⟨_,_,_,h,_⟩:=gt1;exact h
    unfold maxLen at hl0 hl1
    have q0:w2.cell? ⟨b3,off3 + 1,none⟩ = some (.slice ap0 (d.tapes.2 0).recs.1 cp0):=by
      have:=hce0 1 (by decide)
      simpa using this
    have q1:w2.cell? ⟨b3,off3 + 2 + 1,none⟩ = some (.slice ap1 (d.tapes.2 1).recs.1 cp1):=hce1 1 (by decide);have q1':w2.cell? ⟨b3,off3 + 3,none⟩ = some (.slice ap1 (d.tapes.2 1).recs.1 cp1):=hce1 1 (by decide);have x2_11:w2.cell? ⟨w.heap.size,11,none⟩ = some (.slice (some ⟨b3,off3,none⟩) d.tapes.1 cap3):=T2.b1.cell 11;obtain ⟨f0,k0⟩:∃ b,decide (200 < (d.tapes.2 0).recs.1) = b:=⟨_,rfl⟩;obtain ⟨f1,k1⟩:∃ b,decide (200 < (d.tapes.2 1).recs.1) = b:=⟨_,rfl⟩
    have k0':decide (200 < ((d.tapes.2 0).recs.1:Int)) = f0:=by rw [← k0];congr 1;apply propext;omega
    have k1':decide (200 < ((d.tapes.2 1).recs.1:Int)) = f1:=by rw [← k1];congr 1;apply propext;omega
    clear hce0 hce1 hr0 hr1 gt0 gt1 hel3 T2
    have hge:2 ≤ d.tapes.1:=by have:=HTP.out;omega
    have hle:d.tapes.1 ≤ 2:=by have:=HTP.out;omega
    have HF0:Hid (f0 = false → (d.tapes.2 0).recs.1 ≤ 200):=fun e => by rw [← k0] at e;simpa using e
    have HF1:Hid (f1 = false → (d.tapes.2 1).recs.1 ≤ 200):=fun e => by rw [← k1] at e;simpa using e
    have HG0:Hid (f0 = true → ¬ (d.tapes.2 0).recs.1 ≤ 200):=fun e => by rw [← k0] at e;simpa using e
    have HG1:Hid (f1 = true → ¬ (d.tapes.2 1).recs.1 ≤ 200):=fun e => by rw [← k1] at e;simpa using e
    cases f0 with
    | true =>
      go_wp2;go_ret;exact wldP rfl (Stair.pass HOK.out (Stair.pass HFM.out (Stair.fall (fun h => HG0.out (by simp) (h 0 (by omega)))))) HT2.out.bel
    | false =>
    cases f1 with
    | true =>
      go_wp2;go_ret;exact wldP rfl (Stair.pass HOK.out (Stair.pass HFM.out (Stair.fall (fun h => HG1.out (by simp) (h 1 (by omega)))))) HT2.out.bel
    | false =>
    have HFW:Hid (FewP d):=fun t ht => by
      by_cases c:t = 0
      · subst c;exact HF0.out (by simp)
      · obtain rfl:t = 1:=by omega
        exact HF1.out (by simp)
    go_wp2;clear k0 k1 k0' k1' HF0 HF1 HG0 HG1 q0 q1 q1' x2_11 hl0 hl1
    go_loopw [4] (fun v wr => ∃ t:Nat,t ≤ d.tapes.1 ∧ v = .int .i64 t ∧ (∀ u,u < t → ∀ k,k < (d.tapes.2 u).recs.1 → RecAns d.shape ((d.tapes.2 u).recs.2 k) 0) ∧ One w wr #[.int .i64 (d.shape 0),.int .i64 (d.shape 1),.int .i64 (d.shape 2),.int .i64 (d.shape 3),.int .i64 (d.shape 4),.int .i64 (d.shape 5),.int .i64 (d.shape 6),.int .i64 (d.shape 7),.int .i64 (d.shape 8),.slice ao1 d.groups.1 cap1,.slice ao2 d.on.1 cap2,.slice (some ⟨b3,off3,none⟩) d.tapes.1 cap3,.int .i64 d.writes,.int .i64 d.stop,.bool d.down] 37) (fun v _ => d.tapes.1 - (intOf v).toNat)
    case atStart => exact ⟨0,Nat.zero_le _,rfl,fun i hi => by omega,HT2.out⟩
    case round =>
      clear HT2;obtain ⟨t,ht,rfl,hal,T3⟩:=hrel;obtain ⟨wo,rfl⟩:∃ x,x = wr:=⟨_,rfl⟩;have HAL:Hid (∀ u,u < t → ∀ k,k < (d.tapes.2 u).recs.1 → RecAns d.shape ((d.tapes.2 u).recs.2 k) 0):=hal;have HT3:Hid (One w wo #[.int .i64 (d.shape 0),.int .i64 (d.shape 1),.int .i64 (d.shape 2),.int .i64 (d.shape 3),.int .i64 (d.shape 4),.int .i64 (d.shape 5),.int .i64 (d.shape 6),.int .i64 (d.shape 7),.int .i64 (d.shape 8),.slice ao1 d.groups.1 cap1,.slice ao2 d.on.1 cap2,.slice (some ⟨b3,off3,none⟩) d.tapes.1 cap3,.int .i64 d.writes,.int .i64 d.stop,.bool d.down] 37):=T3;clear hal
      by_cases hlt:t < d.tapes.1
      · have zo:w.heap.size < wo.heap.size:=T3.b1.lt
        have hd2:decide ((t:Int) < 2) = true:=decide_eq_true (by omega);clear T3;go_wp2
        go_loopw [5] (fun v wx => ∃ i:Nat,i ≤ (d.tapes.2 t).recs.1 ∧ v = .int .i64 i ∧ (∀ k,k < i → RecAns d.shape ((d.tapes.2 t).recs.2 k) 0) ∧ One w wx #[.int .i64 (d.shape 0),.int .i64 (d.shape 1),.int .i64 (d.shape 2),.int .i64 (d.shape 3),.int .i64 (d.shape 4),.int .i64 (d.shape 5),.int .i64 (d.shape 6),.int .i64 (d.shape 7),.int .i64 (d.shape 8),.slice ao1 d.groups.1 cap1,.slice ao2 d.on.1 cap2,.slice (some ⟨b3,off3,none⟩) d.tapes.1 cap3,.int .i64 d.writes,.int .i64 d.stop,.bool d.down] 37) (fun v _ => (d.tapes.2 t).recs.1 - (intOf v).toNat)
        case atStart => exact ⟨0,Nat.zero_le _,rfl,fun i hi => by omega,HT3.out⟩
        case round =>
          clear HT3;obtain ⟨i,hi',rfl,hal2,T4⟩:=hrel;obtain ⟨wx,rfl⟩:∃ x,x = wr:=⟨_,rfl⟩;have HAL2:Hid (∀ k,k < i → RecAns d.shape ((d.tapes.2 t).recs.2 k) 0):=hal2;have HT4:Hid (One w wx #[.int .i64 (d.shape 0),.int .i64 (d.shape 1),.int .i64 (d.shape 2),.int .i64 (d.shape 3),.int .i64 (d.shape 4),.int .i64 (d.shape 5),.int .i64 (d.shape 6),.int .i64 (d.shape 7),.int .i64 (d.shape 8),.slice ao1 d.groups.1 cap1,.slice ao2 d.on.1 cap2,.slice (some ⟨b3,off3,none⟩) d.tapes.1 cap3,.int .i64 d.writes,.int .i64 d.stop,.bool d.down] 37):=T4;have zx:w.heap.size < wx.heap.size:=T4.b1.lt;clear hal2;obtain ⟨ct,hrt,hct⟩:=elem_rd (t:=0) HEL.out T4.bel hhi hb3 hlt;obtain ⟨ap,cp,rfl,gt⟩:=Tape_rd hrt;have c1:wx.cell? ⟨b3,off3 + t * 2 + 1,none⟩ = some (.slice ap (d.tapes.2 t).recs.1 cp):=hct 1 (by decide);obtain ⟨_,_,et,hmt,hct'⟩:=gt
          cases et
          unfold maxLen at hmt;have HCT:Hid ((d.tapes.2 t).recs.1 ≠ 0 → ∃ b off,ap = some ⟨b,off,none⟩ ∧ b < hi ∧ ∀ i,i < (d.tapes.2 t).recs.1 → ∃ ce,layRec.rd wx hi ((d.tapes.2 t).recs.2 i) ce ∧ ∀ j,j < layRec.sz → wx.cell? ⟨b,off + (i * layRec.sz + j),none⟩ = ce[j]?):=hct';have x5_11:wx.cell? ⟨w.heap.size,11,none⟩ = some (.slice (some ⟨b3,off3,none⟩) d.tapes.1 cap3):=T4.b1.cell 11;clear hct hrt hct'
          by_cases hli:i < (d.tapes.2 t).recs.1
          · obtain ⟨b6,off6,he6,hb6,hel6⟩:=HCT.out (by omega)
            subst he6;obtain ⟨cr,hrr,hcr⟩:=hel6 i hli;obtain ⟨ro6,rc6,ro7,rc7,ro8,rc8,rfl,-⟩:=Rec_rd hrr;have r0:wx.cell? ⟨b6,off6 + i * 9,none⟩ = some (.int .i64 ((d.tapes.2 t).recs.2 i).kind):=hcr 0 (by decide);have kr0:=cell_regrown r0;have r1:wx.cell? ⟨b6,off6 + i * 9 + 1,none⟩ = some (.int .i64 ((d.tapes.2 t).recs.2 i).seq):=hcr 1 (by decide);have kr1:=cell_regrown r1;have r2:wx.cell? ⟨b6,off6 + i * 9 + 2,none⟩ = some (.string ((d.tapes.2 t).recs.2 i).name):=hcr 2 (by decide);have kr2:=cell_regrown r2;have r3:wx.cell? ⟨b6,off6 + i * 9 + 3,none⟩ = some (.int .i64 ((d.tapes.2 t).recs.2 i).length):=hcr 3 (by decide);have kr3:=cell_regrown r3;have r4:wx.cell? ⟨b6,off6 + i * 9 + 4,none⟩ = some (.int .i64 ((d.tapes.2 t).recs.2 i).group):=hcr 4 (by decide);have kr4:=cell_regrown r4;have r5:wx.cell? ⟨b6,off6 + i * 9 + 5,none⟩ = some (.int .i64 ((d.tapes.2 t).recs.2 i).row):=hcr 5 (by decide);have kr5:=cell_regrown r5;have r6:wx.cell? ⟨b6,off6 + i * 9 + 6,none⟩ = some (.slice ro6 ((d.tapes.2 t).recs.2 i).rows.1 rc6):=hcr 6 (by decide);have kr6:=cell_regrown r6;have r7:wx.cell? ⟨b6,off6 + i * 9 + 7,none⟩ = some (.slice ro7 ((d.tapes.2 t).recs.2 i).data.1 rc7):=hcr 7 (by decide);have kr7:=cell_regrown r7;have r8:wx.cell? ⟨b6,off6 + i * 9 + 8,none⟩ = some (.slice ro8 ((d.tapes.2 t).recs.2 i).delta.1 rc8):=hcr 8 (by decide);have kr8:=cell_regrown r8;have HRR:Hid (layRec.rd wx hi ((d.tapes.2 t).recs.2 i) [.int .i64 ((d.tapes.2 t).recs.2 i).kind,.int .i64 ((d.tapes.2 t).recs.2 i).seq,.string ((d.tapes.2 t).recs.2 i).name,.int .i64 ((d.tapes.2 t).recs.2 i).length,.int .i64 ((d.tapes.2 t).recs.2 i).group,.int .i64 ((d.tapes.2 t).recs.2 i).row,.slice ro6 ((d.tapes.2 t).recs.2 i).rows.1 rc6,.slice ro7 ((d.tapes.2 t).recs.2 i).data.1 rc7,.slice ro8 ((d.tapes.2 t).recs.2 i).delta.1 rc8]):=hrr;obtain ⟨X,hX⟩:∃ X,RecAns d.shape ((d.tapes.2 t).recs.2 i) X:=stair_ex (K:=isZ) ⟨0,rfl⟩ _;have HX:Hid (RecAns d.shape ((d.tapes.2 t).recs.2 i) X):=hX;have kx5_11:=cell_regrown x5_11;have kc1:=cell_regrown c1;have x5_0:wx.cell? ⟨w.heap.size,0,none⟩ = some (.int .i64 (d.shape 0)):=T4.b1.cell 0;have kx5_0:=cell_regrown x5_0;have x5_1:wx.cell? ⟨w.heap.size,1,none⟩ = some (.int .i64 (d.shape 1)):=T4.b1.cell 1;have kx5_1:=cell_regrown x5_1;have x5_2:wx.cell? ⟨w.heap.size,2,none⟩ = some (.int .i64 (d.shape 2)):=T4.b1.cell 2;have kx5_2:=cell_regrown x5_2;have x5_3:wx.cell? ⟨w.heap.size,3,none⟩ = some (.int .i64 (d.shape 3)):=T4.b1.cell 3;have kx5_3:=cell_regrown x5_3;have x5_4:wx.cell? ⟨w.heap.size,4,none⟩ = some (.int .i64 (d.shape 4)):=T4.b1.cell 4;have kx5_4:=cell_regrown x5_4;have x5_5:wx.cell? ⟨w.heap.size,5,none⟩ = some (.int .i64 (d.shape 5)):=T4.b1.cell 5;have kx5_5:=cell_regrown x5_5;have x5_6:wx.cell? ⟨w.heap.size,6,none⟩ = some (.int .i64 (d.shape 6)):=T4.b1.cell 6;have kx5_6:=cell_regrown x5_6;have x5_7:wx.cell? ⟨w.heap.size,7,none⟩ = some (.int .i64 (d.shape 7)):=T4.b1.cell 7
            have kx5_7:=cell_regrown x5_7;have x5_8:wx.cell? ⟨w.heap.size,8,none⟩ = some (.int .i64 (d.shape 8)):=T4.b1.cell 8;have kx5_8:=cell_regrown x5_8;have CR:=q_below (W:=wx) (fun w' hw' => rec_det HX.out (specRec_any d.shape ((d.tapes.2 t).recs.2 i) _ hi w' (layRec.rd_below HRR.out hw' (by omega)) (Nat.le_trans (by omega) hw'.size) (HNM.out t hlt i hli)));unfold shapeV at CR;clear hel6 hcr hrr T4 hX
            go_upto_region 14 with fail
            refine WQ.region (by kernel_rfl) (by kernel_rfl) ?_
            repeat (first | (apply WQ.skip;(case hw => rfl);intro K hK;go_simp;apply hK;clear hK K) | (apply WQ.want;(case hw => rfl);intro K hK;go_simp;first | (apply hK;clear hK K) | (apply Exists.intro;apply And.intro;(case left => intro p;(first | (go_at_call 58;exact CR _ _)));apply hK;clear hK K)))
            refine WQ.nil ?_;intro w6 hw6;have HT6:Hid (One w w6 #[.int .i64 (d.shape 0),.int .i64 (d.shape 1),.int .i64 (d.shape 2),.int .i64 (d.shape 3),.int .i64 (d.shape 4),.int .i64 (d.shape 5),.int .i64 (d.shape 6),.int .i64 (d.shape 7),.int .i64 (d.shape 8),.slice ao1 d.groups.1 cap1,.slice ao2 d.on.1 cap2,.slice (some ⟨b3,off3,none⟩) d.tapes.1 cap3,.int .i64 d.writes,.int .i64 d.stop,.bool d.down] 37):=HT4.out.call (below_rg hw6);clear hw6 CR r0 kr0 x5_0 kx5_0 r1 kr1 x5_1 kx5_1 r2 kr2 x5_2 kx5_2 r3 kr3 x5_3 kx5_3 r4 kr4 x5_4 kx5_4 r5 kr5 x5_5 kx5_5 r6 kr6 x5_6 kx5_6 r7 kr7 x5_7 kx5_7 r8 kr8 x5_8 kx5_8 x5_11 kx5_11 c1 kc1
            by_cases hx0:X = 0
            · subst hx0
              go_wp2
              go_roundw
              case rel => exact ⟨i + 1,by omega,by go_num,fun k hk => by
                            by_cases c:k = i
                            · subst c;exact HX.out
                            · exact HAL2.out k (by omega),HT6.out⟩
              case measure => simp [intOf];omega
            · have hne:(X != 0) = true:=by simp [hx0]
              go_wp2;go_ret;exact wldP rfl (Stair.pass HOK.out (Stair.pass HFM.out (Stair.pass HFW.out (Stair.last (.inl ⟨hx0,.inr ⟨hx0,t,i,hlt,hli,HX.out,HAL2.out,HAL.out⟩⟩))))) HT6.out.bel
          · obtain rfl:i = (d.tapes.2 t).recs.1:=by omega
            clear T4;go_wp2
            go_roundw
            case rel => exact ⟨t + 1,by omega,by go_num,fun u hu => by
                          by_cases c:u = t
                          · subst c;exact HAL2.out
                          · exact HAL.out u (by omega),HT4.out⟩
            case measure => simp [intOf];omega
      · obtain rfl:t = d.tapes.1:=by omega
        clear T3;have HRA:Hid (RecsAns d.shape d.tapes.1 d.tapes.2 0):=.inl ⟨rfl,HAL.out⟩;go_wp2
        go_loop [7] (fun v => ∃ t:Nat,t ≤ d.tapes.1 ∧ v = .int .i64 t ∧ ∀ u,u < t → (d.tapes.2 u).wiped = true → (d.tapes.2 u).recs.1 = 0) (fun v => d.tapes.1 - (intOf v).toNat)
        case atStart => exact ⟨0,Nat.zero_le _,rfl,fun i hi => by omega⟩
        case round =>
          obtain ⟨t,ht,rfl,hal⟩:=hrel;have HAL3:Hid (∀ u,u < t → (d.tapes.2 u).wiped = true → (d.tapes.2 u).recs.1 = 0):=hal;clear hal
          by_cases hlt:t < d.tapes.1
          · obtain ⟨ct,hrt,hct⟩:=elem_rd (t:=0) HEL.out HT3.out.bel hhi hb3 hlt
            obtain ⟨ap,cp,rfl,gt⟩:=Tape_rd hrt;have c0:wo.cell? ⟨b3,off3 + t * 2,none⟩ = some (.bool (d.tapes.2 t).wiped):=hct 0 (by decide);have c1:wo.cell? ⟨b3,off3 + t * 2 + 1,none⟩ = some (.slice ap (d.tapes.2 t).recs.1 cp):=hct 1 (by decide);have x5_11:wo.cell? ⟨w.heap.size,11,none⟩ = some (.slice (some ⟨b3,off3,none⟩) d.tapes.1 cap3):=HT3.out.b1.cell 11;obtain ⟨u,hu⟩:∃ u,u = (d.tapes.2 t).wiped:=⟨_,rfl⟩;obtain ⟨g,hg⟩:∃ b,decide (0 < (d.tapes.2 t).recs.1) = b:=⟨_,rfl⟩
            have hg':decide (0 < ((d.tapes.2 t).recs.1:Int)) = g:=by rw [← hg];simp
            rw [← hu] at c0
            have HE3:Hid (((d.tapes.2 t).wiped = true → (d.tapes.2 t).recs.1 = 0) ↔ (u = true → g = false)):=by
              show _ ↔ _
              rw [← hu,← hg]
              simp
            clear hct hrt gt hu
            cases u with
            | false =>
              go_wp2
              go_round
              case rel => exact ⟨t + 1,by omega,by go_num,fun u hu => by
                            by_cases c:u = t
                            · subst c;exact HE3.out.2 (by simp)
                            · exact HAL3.out u (by omega)⟩
              case measure => simp [intOf];omega
            | true =>
              cases g with
              | false =>
                go_wp2
                go_round
                case rel => exact ⟨t + 1,by omega,by go_num,fun u hu => by
                              by_cases c:u = t
                              · subst c;exact HE3.out.2 (by simp)
                              · exact HAL3.out u (by omega)⟩
                case measure => simp [intOf];omega
              | true =>
                go_wp2;go_ret;exact wldP rfl (Stair.pass HOK.out (Stair.pass HFM.out (Stair.pass HFW.out (Stair.last (.inr ⟨HRA.out,Stair.fall (fun h => by have:=HE3.out.1 (h t hlt);simp at this)⟩))))) HT3.out.bel
          · obtain rfl:t = d.tapes.1:=by omega
            have HCL:Hid (CleanP d):=HAL3.out;have x5_12:wo.cell? ⟨w.heap.size,12,none⟩ = some (.int .i64 d.writes):=HT3.out.b1.cell 12;have x5_13:wo.cell? ⟨w.heap.size,13,none⟩ = some (.int .i64 d.stop):=HT3.out.b1.cell 13;obtain ⟨t1,h1⟩:=exB (InP d.writes 0 1000000000);obtain ⟨t2,h2⟩:=exB (InP d.stop (-1) 1000000000);have C1:=fun w' => l1In_b (w:=w') h1;have C2:=fun w' => l1In_b (w:=w') h2
            have HE4:Hid (CountP d ↔ (t1 = true ∧ t2 = true)):=by
              show CountP d ↔ _
              rw [h1,h2];exact Iff.rfl
            clear h1 h2
            go_wp2_with fail
            refine (C1 _).mono ?_;rintro e w' ⟨rfl,hw'⟩;obtain rfl:=hw'.symm;clear C1
            cases t1 with
            | false =>
              go_wp2;go_ret;exact wldP rfl (Stair.pass HOK.out (Stair.pass HFM.out (Stair.pass HFW.out (Stair.last (.inr ⟨HRA.out,Stair.pass HCL.out (Stair.fall (fun h => by have:=HE4.out.1 h;simp at this))⟩))))) HT3.out.bel
            | true =>
              go_wp2_with fail
              refine (C2 _).mono ?_;rintro e w' ⟨rfl,hw'⟩;obtain rfl:=hw'.symm;clear C2
              cases t2 with
              | false =>
                go_wp2;go_ret;exact wldP rfl (Stair.pass HOK.out (Stair.pass HFM.out (Stair.pass HFW.out (Stair.last (.inr ⟨HRA.out,Stair.pass HCL.out (Stair.fall (fun h => by have:=HE4.out.1 h;simp at this))⟩))))) HT3.out.bel
              | true =>
                go_wp2;go_ret;exact wldP rfl (Stair.pass HOK.out (Stair.pass HFM.out (Stair.pass HFW.out (Stair.last (.inr ⟨HRA.out,Stair.pass HCL.out (Stair.pass (HE4.out.2 (by simp)) (Stair.last rfl))⟩))))) HT3.out.bel
set_option maxHeartbeats 16000000 in
set_option maxRecDepth 20000 in
theorem specWorld_E (d:WorldD) (cs:List Value) (hi:Nat) (w:World) (h:layWorld.rd w hi d cs) (hhi:hi ≤ w.heap.size) (hnm:∀ t,t < d.tapes.1 → ∀ i,i < (d.tapes.2 t).recs.1 → ((d.tapes.2 t).recs.2 i).name.size ≤ 1048576) (hok':¬ OkShape d.shape) :
    Calls Tryz.prog 26 #[.agg cs.toArray] w (WldPost d w):=by
  obtain ⟨ao1,cap1,ao2,cap2,ao3,cap3,rfl,g1,g2,g3,-⟩:=World_rd h;have HRD:Hid (layWorld.rd w hi d [.int .i64 (d.shape 0),.int .i64 (d.shape 1),.int .i64 (d.shape 2),.int .i64 (d.shape 3),.int .i64 (d.shape 4),.int .i64 (d.shape 5),.int .i64 (d.shape 6),.int .i64 (d.shape 7),.int .i64 (d.shape 8),.slice ao1 d.groups.1 cap1,.slice ao2 d.on.1 cap2,.slice ao3 d.tapes.1 cap3,.int .i64 d.writes,.int .i64 d.stop,.bool d.down]):=h;obtain ⟨v2,e2,⟨h2,hcp2⟩,_⟩:=g2
  cases e2
  have H2:Hid (RdI w hi (.slice ao2 d.on.1 cap2) d.on.1 d.on.2):=h2;have HCP:Hid (CapP (.slice ao2 d.on.1 cap2) d.on.1):=hcp2;have hm2:=h2.mx;obtain ⟨_,_,e3,hm3,hc3⟩:=g3
  cases e3
  unfold maxLen at hm2 hm3;have HC3:Hid (d.tapes.1 ≠ 0 → ∃ b off,ao3 = some ⟨b,off,none⟩ ∧ b < hi ∧ ∀ i,i < d.tapes.1 → ∃ ce,layTape.rd w hi (d.tapes.2 i) ce ∧ ∀ j,j < layTape.sz → w.cell? ⟨b,off + (i * layTape.sz + j),none⟩ = ce[j]?):=hc3;have HNM:Hid (∀ t,t < d.tapes.1 → ∀ i,i < (d.tapes.2 t).recs.1 → ((d.tapes.2 t).recs.2 i).name.size ≤ 1048576):=hnm;clear h h2 hcp2 hc3 g1 hnm;have T0:=one_new w #[.int .i64 (d.shape 0),.int .i64 (d.shape 1),.int .i64 (d.shape 2),.int .i64 (d.shape 3),.int .i64 (d.shape 4),.int .i64 (d.shape 5),.int .i64 (d.shape 6),.int .i64 (d.shape 7),.int .i64 (d.shape 8),.slice ao1 d.groups.1 cap1,.slice ao2 d.on.1 cap2,.slice ao3 d.tapes.1 cap3,.int .i64 d.writes,.int .i64 d.stop,.bool d.down] 37;have CSh:=fun w' => specShape_any d.shape w';unfold shapeV at CSh
  go_enter Tryz.func26,Tryz.ntmps26
  go_wp2_with fail
  refine (CSh _).mono ?_;rintro e w1 ⟨x,rfl,hx,b1⟩;have T1:One w w1 #[.int .i64 (d.shape 0),.int .i64 (d.shape 1),.int .i64 (d.shape 2),.int .i64 (d.shape 3),.int .i64 (d.shape 4),.int .i64 (d.shape 5),.int .i64 (d.shape 6),.int .i64 (d.shape 7),.int .i64 (d.shape 8),.slice ao1 d.groups.1 cap1,.slice ao2 d.on.1 cap2,.slice ao3 d.tapes.1 cap3,.int .i64 d.writes,.int .i64 d.stop,.bool d.down] 37:=T0.call b1;have HT1:Hid (One w w1 #[.int .i64 (d.shape 0),.int .i64 (d.shape 1),.int .i64 (d.shape 2),.int .i64 (d.shape 3),.int .i64 (d.shape 4),.int .i64 (d.shape 5),.int .i64 (d.shape 6),.int .i64 (d.shape 7),.int .i64 (d.shape 8),.slice ao1 d.groups.1 cap1,.slice ao2 d.on.1 cap2,.slice ao3 d.tapes.1 cap3,.int .i64 d.writes,.int .i64 d.stop,.bool d.down] 37):=T1;clear b1 T0 CSh;have x1_0:w1.cell? ⟨w.heap.size,0,none⟩ = some (.int .i64 (d.shape 0)):=T1.b1.cell 0;have kx1_0:=cell_regrown x1_0;have x1_1:w1.cell? ⟨w.heap.size,1,none⟩ = some (.int .i64 (d.shape 1)):=T1.b1.cell 1;have kx1_1:=cell_regrown x1_1;have x1_2:w1.cell? ⟨w.heap.size,2,none⟩ = some (.int .i64 (d.shape 2)):=T1.b1.cell 2;have kx1_2:=cell_regrown x1_2;have x1_3:w1.cell? ⟨w.heap.size,3,none⟩ = some (.int .i64 (d.shape 3)):=T1.b1.cell 3;have kx1_3:=cell_regrown x1_3;have x1_4:w1.cell? ⟨w.heap.size,4,none⟩ = some (.int .i64 (d.shape 4)):=T1.b1.cell 4;have kx1_4:=cell_regrown x1_4;have x1_5:w1.cell? ⟨w.heap.size,5,none⟩ = some (.int .i64 (d.shape 5)):=T1.b1.cell 5;have kx1_5:=cell_regrown x1_5;have x1_6:w1.cell? ⟨w.heap.size,6,none⟩ = some (.int .i64 (d.shape 6)):=T1.b1.cell 6;have kx1_6:=cell_regrown x1_6;have x1_7:w1.cell? ⟨w.heap.size,7,none⟩ = some (.int .i64 (d.shape 7)):=T1.b1.cell 7;have kx1_7:=cell_regrown x1_7;have x1_8:w1.cell? ⟨w.heap.size,8,none⟩ = some (.int .i64 (d.shape 8)):=T1.b1.cell 8;have kx1_8:=cell_regrown x1_8;have x1_9:w1.cell? ⟨w.heap.size,9,none⟩ = some (.slice ao1 d.groups.1 cap1):=T1.b1.cell 9;have kx1_9:=cell_regrown x1_9;have x1_10:w1.cell? ⟨w.heap.size,10,none⟩ = some (.slice ao2 d.on.1 cap2):=T1.b1.cell 10;have kx1_10:=cell_regrown x1_10;have x1_11:w1.cell? ⟨w.heap.size,11,none⟩ = some (.slice ao3 d.tapes.1 cap3):=T1.b1.cell 11;have kx1_11:=cell_regrown x1_11;have x1_12:w1.cell? ⟨w.heap.size,12,none⟩ = some (.int .i64 d.writes):=T1.b1.cell 12;have kx1_12:=cell_regrown x1_12;have x1_13:w1.cell? ⟨w.heap.size,13,none⟩ = some (.int .i64 d.stop):=T1.b1.cell 13;have kx1_13:=cell_regrown x1_13;have x1_14:w1.cell? ⟨w.heap.size,14,none⟩ = some (.bool d.down):=T1.b1.cell 14;have kx1_14:=cell_regrown x1_14;clear T1
  rcases hx with ⟨rfl,hno⟩ | ⟨rfl,hok⟩
  · go_wp2
    go_ret;exact wldP rfl (Stair.fall hno) HT1.out.bel
  exact absurd hok hok'
theorem specWorld_any (d:WorldD) (cs:List Value) (hi:Nat) (w:World) (h:layWorld.rd w hi d cs) (hhi:hi ≤ w.heap.size) (hnm:∀ t,t < d.tapes.1 → ∀ i,i < (d.tapes.2 t).recs.1 → ((d.tapes.2 t).recs.2 i).name.size ≤ 1048576) :
    Calls Tryz.prog 26 #[.agg cs.toArray] w (WldPost d w):=by
  by_cases h0:OkShape d.shape
  · by_cases h1:BuiltP d ∧ ApartP d.on.1 d.on.2 (d.shape 0 + d.shape 1 - 1)
    · by_cases h2:(d.on.1:Int) ≤ d.shape 5 ∧ (d.down = true → d.on.1 = 0)
      · by_cases h3:d.tapes.1 = 2
        · exact specWorld_D d cs hi w h hhi hnm h0 ⟨h1.1,⟨h1.2,h2.1,h2.2⟩,h3⟩
        · exact specWorld_C d cs hi w h hhi hnm h0 ⟨h1.1,h1.2,h2,h3⟩
      · exact specWorld_B d cs hi w h hhi hnm h0 ⟨h1.1,h1.2,h2⟩
    · exact specWorld_A d cs hi w h hhi hnm h0 h1
  · exact specWorld_E d cs hi w h hhi hnm h0
end Go.Proofs.YtbjblbbbafiepaaGreat
namespace Go.Proofs.YtbjblbbbafiepaaGreat
open Go.RowKit F256
theorem world15 {w:World} {hi:Nat} {d:WorldD} {cs:List Value} (h:layWorld.rd w hi d cs):∃ v0 v1 v2 v3 v4 v5 v6 v7 v8 vp0 vl0 vq0 vp1 vl1 vq1 vp2 vl2 vq2 v9 v10 vb,cs = [.int .i64 v0,.int .i64 v1,.int .i64 v2,.int .i64 v3,.int .i64 v4,.int .i64 v5,.int .i64 v6,.int .i64 v7,.int .i64 v8,.slice vp0 vl0 vq0,.slice vp1 vl1 vq1,.slice vp2 vl2 vq2,.int .i64 v9,.int .i64 v10,.bool vb]:=by
  obtain ⟨p1,pc1,p2,pc2,p3,pc3,rfl,-⟩:=World_rd h;exact ⟨_,_,_,_,_,_,_,_,_,_,_,_,_,_,_,_,_,_,_,_,_,rfl⟩
theorem world15O {w:World} {lo hi:Nat} {d:WorldD} {cs:List Value} (h:OwnT layWorld w lo hi d cs):∃ v0 v1 v2 v3 v4 v5 v6 v7 v8 vp0 vl0 vq0 vp1 vl1 vq1 vp2 vl2 vq2 v9 v10 vb,cs = [.int .i64 v0,.int .i64 v1,.int .i64 v2,.int .i64 v3,.int .i64 v4,.int .i64 v5,.int .i64 v6,.int .i64 v7,.int .i64 v8,.slice vp0 vl0 vq0,.slice vp1 vl1 vq1,.slice vp2 vl2 vq2,.int .i64 v9,.int .i64 v10,.bool vb]:=world15 h.rd
theorem stair_in {K:Int → Prop}:∀ (l:List (Prop × Int)) {x:Int},Stair l K x → K x ∨ ∃ p,p ∈ l ∧ x = p.2
  | [],x,h => .inl h
  | (p,c) :: l,x,h => by
    rcases h with ⟨_,h⟩ | ⟨_,h⟩
    · exact .inr ⟨(p,c),List.mem_cons_self ..,h⟩
    · rcases stair_in l h with k | ⟨q,hq,k⟩
      · exact .inl k
      · exact .inr ⟨q,List.mem_cons_of_mem _ hq,k⟩
theorem rec_small {s:Nat → Int} {r:RecD} {x:Int} (h:RecAns s r x):0 ≤ x ∧ x ≤ 9:=by
  rcases stair_in _ h with k | ⟨p,hp,rfl⟩
  · rw [show x = 0 from k];decide
  · simp at hp
    rcases hp with rfl | rfl | rfl | rfl | rfl | rfl <;> constructor <;> simp
theorem wld_small {d:WorldD} {x:Int} (h:WldAns d x):(-9223372036854775808 ≤ x ∧ x ≤ 9223372036854775807):=by
  have key:0 ≤ x ∧ x ≤ 9:=by
    rcases stair_in _ h with k | ⟨p,hp,rfl⟩
    · rcases k with ⟨_,k⟩ | ⟨_,k⟩
      · rcases k with ⟨rfl,_⟩ | ⟨_,t,i,_,_,hr,_⟩
        · decide
        · exact rec_small hr
      · rcases stair_in _ k with k | ⟨p,hp,rfl⟩
        · rw [show x = 0 from k];decide
        · simp at hp
          rcases hp with rfl | rfl <;> constructor <;> simp
    · simp at hp
      rcases hp with rfl | rfl | rfl <;> constructor <;> simp
  omega
theorem wld_ok_names {d:WorldD} (h:szWorldD d ≤ 1048576):∀ t,t < d.tapes.1 → ∀ i,i < (d.tapes.2 t).recs.1 → ((d.tapes.2 t).recs.2 i).name.size ≤ 1048576:=fun t ht i hi => by
  have h1:szSl szTapeD d.tapes ≤ 1048576:=by unfold szWorldD at h;omega
  have h2:szSl szRecD (d.tapes.2 t).recs ≤ 1048576:=szSl_at h1 ht;have h3:szRecD ((d.tapes.2 t).recs.2 i) ≤ 1048576:=szSl_at h2 hi;unfold szRecD at h3;omega
end Go.Proofs.YtbjblbbbafiepaaGreat
namespace Go.Proofs.YtbjblbbbafiepaaGreat
open Go.RowKit F256
theorem pickF_at {p:Nat → Bool} {k:Nat} (hp:p k = true):∀ n,k < n → pickF p n (pickI p k).length = k ∧ (pickI p k).length < (pickI p n).length
  | 0,h => by omega
  | n + 1,h => by
    by_cases c:k = n
    · subst c
      exact ⟨pickF_last hp,by rw [pick_succ,if_pos hp];simp⟩
    · obtain ⟨h1,h2⟩:=pickF_at hp n (by omega)
      exact ⟨(pickF_more h2).trans h1,by rw [pick_succ,List.length_append];omega⟩
theorem pickF_le (p:Nat → Bool) (n i:Nat):pickF p n i ≤ n:=by
  by_cases h:i < (pickI p n).length
  · exact Nat.le_of_lt (pickF_lt h)
  · unfold pickF
    rw [List.getD_eq_getElem?_getD,List.getElem?_eq_none (by omega)];exact Nat.zero_le _
def deadB (d:WorldD) (G:Nat):Bool:=decide (d.shape 3 < (wipedN (d.groups.2 G).2 (d.groups.2 G).1:Int))
theorem deadB_is (d:WorldD) (G:Nat):deadB d G = true ↔ DeadP d G:=by unfold deadB DeadP;simp
def deadsF (d:WorldD):Nat → Int:=fun i => (pickF (deadB d) d.groups.1 i:Int)
def DeadAns (d:WorldD) (q:GroupsResultD):Prop:=(∃ x,x ≠ 0 ∧ WldAns d x ∧ q = ⟨x,(0,fun _ => 0)⟩) ∨ (WldAns d 0 ∧ q = ⟨0,((pickI (deadB d) d.groups.1).length,deadsF d)⟩)
theorem DeadAns.one {d:WorldD} {p q:GroupsResultD} (h:DeadAns d p) (k:DeadAns d q):p = q:=by
  rcases h with ⟨x,h1,h2,rfl⟩ | ⟨h1,rfl⟩ <;> rcases k with ⟨y,k1,k2,rfl⟩ | ⟨k1,rfl⟩
  · rw [h2.one k2]
  · exact absurd (h2.one k1) h1
  · exact absurd (k2.one h1) k1
  · rfl
def GrPost (P:GroupsResultD → Prop) (w:World) (e:Ending) (w':World):Prop:=∃ q cs,e = .returned (.agg cs.toArray) ∧ P q ∧ OwnT layGroupsResult w' w.heap.size w'.heap.size q cs ∧ Below w.heap.size w w'
theorem size_Gr:(Tryz.prog.info? 31).map (·.size) = some 2:=by kernel_rfl
theorem gres_own {w:World} {lo hi n cap:Nat} {ao:Option Addr} {f:Nat → Int} (h:OwnI w lo hi (.slice ao n cap) n f) (hhi:hi ≤ w.heap.size) (hb:∀ i,-9223372036854775808 ≤ f i ∧ f i ≤ 9223372036854775807) (c:Int) (hc:-9223372036854775808 ≤ c ∧ c ≤ 9223372036854775807):OwnT layGroupsResult w lo hi ⟨c,(n,f)⟩ [.int .i64 c,.slice ao n cap] :=
  ⟨(Value.slice ao n cap).ownBlock.toList,GroupsResult_mk ⟨c,(n,f)⟩ ⟨_,rfl,rfl,h.weaken (Nat.zero_le _) hhi,hb⟩ hc,by cases (Value.slice ao n cap).ownBlock <;> simp,fun b hb => by
    have e:(Value.slice ao n cap).ownBlock = some b:=by simpa using hb
    exact ⟨(h.1.lt b e).1,h.2 b e⟩⟩
theorem gcode_own (w:World) (c:Int) (hc:-9223372036854775808 ≤ c ∧ c ≤ 9223372036854775807) (lo hi:Nat) (hhi:hi ≤ w.heap.size):OwnT layGroupsResult w lo hi ⟨c,(0,fun _ => 0)⟩ [.int .i64 c,.slice none 0 0]:=gres_own (ownI_nil w lo hi _) hhi (fun _ => by decide) c hc
theorem deadsF_in {d:WorldD} (h:OkWorld d) (i:Nat):-9223372036854775808 ≤ deadsF d i ∧ deadsF d i ≤ 9223372036854775807:=by
  have h1:=pickF_le (deadB d) d.groups.1 i;have h2:=h.form.1.1;obtain ⟨s1,s2,_⟩:=h.shape;unfold Shp3 at s1;unfold deadsF;omega
set_option maxHeartbeats 16000000 in
set_option maxRecDepth 20000 in
theorem implDead_any (d:WorldD) (cs:List Value) (hi:Nat) (w:World) (h:layWorld.rd w hi d cs) (hhi:hi ≤ w.heap.size) (hsz:szWorldD d ≤ 1048576) :
    Calls Tryz.prog 9 #[.agg cs.toArray] w (GrPost (DeadAns d) w):=by
  have h':=h;obtain ⟨ao1,cap1,ao2,cap2,ao3,cap3,rfl,g1,g2,g3,k0,k4,k5⟩:=World_rd h';have HRD:Hid (layWorld.rd w hi d [.int .i64 (d.shape 0),.int .i64 (d.shape 1),.int .i64 (d.shape 2),.int .i64 (d.shape 3),.int .i64 (d.shape 4),.int .i64 (d.shape 5),.int .i64 (d.shape 6),.int .i64 (d.shape 7),.int .i64 (d.shape 8),.slice ao1 d.groups.1 cap1,.slice ao2 d.on.1 cap2,.slice ao3 d.tapes.1 cap3,.int .i64 d.writes,.int .i64 d.stop,.bool d.down]):=h;have HSZ:Hid (szWorldD d ≤ 1048576):=hsz;clear h h' hsz g1 g2 g3 k0 k4 k5;have T0:=two_newb w #[.int .i64 (d.shape 0),.int .i64 (d.shape 1),.int .i64 (d.shape 2),.int .i64 (d.shape 3),.int .i64 (d.shape 4),.int .i64 (d.shape 5),.int .i64 (d.shape 6),.int .i64 (d.shape 7),.int .i64 (d.shape 8),.slice ao1 d.groups.1 cap1,.slice ao2 d.on.1 cap2,.slice ao3 d.tapes.1 cap3,.int .i64 d.writes,.int .i64 d.stop,.bool d.down] #[.int .i64 0,.slice none 0 0] 37 31
  go_enter Tryz.func9,Tryz.ntmps9
  go_wp2_with (refine wp_loadBox 37 (.tmp 1) rfl rfl (w.heap.size) rfl (cs:=[.int .i64 (d.shape 0),.int .i64 (d.shape 1),.int .i64 (d.shape 2),.int .i64 (d.shape 3),.int .i64 (d.shape 4),.int .i64 (d.shape 5),.int .i64 (d.shape 6),.int .i64 (d.shape 7),.int .i64 (d.shape 8),.slice ao1 d.groups.1 cap1,.slice ao2 d.on.1 cap2,.slice ao3 d.tapes.1 cap3,.int .i64 d.writes,.int .i64 d.stop,.bool d.down]) (T0.b1) Tryz.underlying37 size_W rfl ?_)
  refine (implWorld_any d _ hi _ (layWorld.rd_below HRD.out T0.bel hhi) (Nat.le_trans hhi T0.bel.size) (wld_ok_names HSZ.out)).mono ?_;rintro e w1 ⟨x,rfl,hx,b1⟩;have HT1:Hid (Two w w1 #[.int .i64 (d.shape 0),.int .i64 (d.shape 1),.int .i64 (d.shape 2),.int .i64 (d.shape 3),.int .i64 (d.shape 4),.int .i64 (d.shape 5),.int .i64 (d.shape 6),.int .i64 (d.shape 7),.int .i64 (d.shape 8),.slice ao1 d.groups.1 cap1,.slice ao2 d.on.1 cap2,.slice ao3 d.tapes.1 cap3,.int .i64 d.writes,.int .i64 d.stop,.bool d.down] #[.int .i64 0,.slice none 0 0] 37 31):=T0.call b1;have HX:Hid (WldAns d x):=hx;have z1:w.heap.size + 1 < w1.heap.size:=HT1.out.b2.lt;clear b1 T0 hx
  by_cases hx0:x = 0
  case neg =>
    have hne:(x != 0) = true:=by simp [hx0]
    go_wp2_with (refine wp_storeBox 31 _ _ rfl rfl (w.heap.size + 1) rfl (cs:=[.int .i64 x,.slice none 0 0]) (old:=[.int .i64 0,.slice none 0 0]) rfl (HT1.out.b2) size_Gr rfl rfl ((gcode_own w1 x (wld_small HX.out) 0 0 (Nat.zero_le _)).one) ?_;intro w9 X9 C9 z9)
    refine ret_box Tryz.results9 rfl X9 Tryz.underlying31 size_Gr rfl rfl ?_;have zz:=C9.size;exact ⟨⟨x,(0,fun _ => 0)⟩,[.int .i64 x,.slice none 0 0],rfl,.inl ⟨x,hx0,HX.out,rfl⟩,gcode_own w9 x (wld_small HX.out) _ _ (Nat.le_refl _),HT1.out.bel.trans (C9.bel (fun b hb => by simp at hb;omega) HT1.out.bel.size)⟩
  subst hx0;have HOK:Hid (OkWorld d):=WldAns.ok HX.out
  have hN:d.shape 0 + d.shape 1 = (d.groups.1:Int):=by have:=HOK.out.form.1.1;omega
  have hNs:d.groups.1 ≤ 100:=by
    obtain ⟨s1,s2,_⟩:=HOK.out.shape;unfold Shp3 at s1;omega
  have bL:Below w1.heap.size w1 (w1.alloc (.cells #[] 2)):=(Below.refl _ _).alloc (Nat.le_refl _) _;have I0:=(ownI_lit0 w1 (deadsF d)).weaken (lo':=w.heap.size + 1 + 1) (hi':=(w1.alloc (.cells #[] 2)).heap.size) (by omega) (Nat.le_refl _);have TL:Two w (w1.alloc (.cells #[] 2)) #[.int .i64 (d.shape 0),.int .i64 (d.shape 1),.int .i64 (d.shape 2),.int .i64 (d.shape 3),.int .i64 (d.shape 4),.int .i64 (d.shape 5),.int .i64 (d.shape 6),.int .i64 (d.shape 7),.int .i64 (d.shape 8),.slice ao1 d.groups.1 cap1,.slice ao2 d.on.1 cap2,.slice ao3 d.tapes.1 cap3,.int .i64 d.writes,.int .i64 d.stop,.bool d.down] #[.int .i64 0,.slice none 0 0] 37 31:=HT1.out.call bL;have x_0:(w1.alloc (.cells #[] 2)).cell? ⟨w.heap.size,0,none⟩ = some (.int .i64 (d.shape 0)):=TL.b1.cell 0;have x_1:(w1.alloc (.cells #[] 2)).cell? ⟨w.heap.size,1,none⟩ = some (.int .i64 (d.shape 1)):=TL.b1.cell 1;have x_2:(w1.alloc (.cells #[] 2)).cell? ⟨w.heap.size,2,none⟩ = some (.int .i64 (d.shape 2)):=TL.b1.cell 2;have x_3:(w1.alloc (.cells #[] 2)).cell? ⟨w.heap.size,3,none⟩ = some (.int .i64 (d.shape 3)):=TL.b1.cell 3;have x_4:(w1.alloc (.cells #[] 2)).cell? ⟨w.heap.size,4,none⟩ = some (.int .i64 (d.shape 4)):=TL.b1.cell 4;have x_5:(w1.alloc (.cells #[] 2)).cell? ⟨w.heap.size,5,none⟩ = some (.int .i64 (d.shape 5)):=TL.b1.cell 5;have x_6:(w1.alloc (.cells #[] 2)).cell? ⟨w.heap.size,6,none⟩ = some (.int .i64 (d.shape 6)):=TL.b1.cell 6;have x_7:(w1.alloc (.cells #[] 2)).cell? ⟨w.heap.size,7,none⟩ = some (.int .i64 (d.shape 7)):=TL.b1.cell 7;have x_8:(w1.alloc (.cells #[] 2)).cell? ⟨w.heap.size,8,none⟩ = some (.int .i64 (d.shape 8)):=TL.b1.cell 8;have CG:=groupCount_any d.shape HOK.out.shape (w1.alloc (.cells #[] 2));rw [hN] at CG;unfold shapeV at CG
  go_wp2_with fail
  refine CG.mono ?_;rintro e w2 ⟨rfl,b2⟩;have T2:=TL.call b2;have I2:=(I0.below b2 (Nat.le_refl _)).mono b2.size;clear CG b2 I0 TL bL x_0 x_1 x_2 x_3 x_4 x_5 x_6 x_7 x_8 HT1;go_wp2
  go_loopw [4,16] (fun vh i wr => ∃ k:Nat,k ≤ d.groups.1 ∧ i = .int .i64 k ∧ OwnI wr (w.heap.size + 1 + 1) wr.heap.size vh (pickI (deadB d) k).length (deadsF d) ∧ Two w wr #[.int .i64 (d.shape 0),.int .i64 (d.shape 1),.int .i64 (d.shape 2),.int .i64 (d.shape 3),.int .i64 (d.shape 4),.int .i64 (d.shape 5),.int .i64 (d.shape 6),.int .i64 (d.shape 7),.int .i64 (d.shape 8),.slice ao1 d.groups.1 cap1,.slice ao2 d.on.1 cap2,.slice ao3 d.tapes.1 cap3,.int .i64 d.writes,.int .i64 d.stop,.bool d.down] #[.int .i64 0,.slice none 0 0] 37 31) (fun _ i _ => d.groups.1 - (intOf i).toNat)
  case atStart => exact ⟨0,Nat.zero_le _,rfl,I2,T2⟩
  case round =>
    clear I2 T2;obtain ⟨k,hk,rfl,hI,T⟩:=hrel;have HT:Hid (Two w wr #[.int .i64 (d.shape 0),.int .i64 (d.shape 1),.int .i64 (d.shape 2),.int .i64 (d.shape 3),.int .i64 (d.shape 4),.int .i64 (d.shape 5),.int .i64 (d.shape 6),.int .i64 (d.shape 7),.int .i64 (d.shape 8),.slice ao1 d.groups.1 cap1,.slice ao2 d.on.1 cap2,.slice ao3 d.tapes.1 cap3,.int .i64 d.writes,.int .i64 d.stop,.bool d.down] #[.int .i64 0,.slice none 0 0] 37 31):=T;obtain ⟨c,hc⟩:∃ c,c = (pickI (deadB d) k).length:=⟨_,rfl⟩;have HC:Hid (c = (pickI (deadB d) k).length):=hc;rw [← hc] at hI;have HI:Hid (OwnI wr (w.heap.size + 1 + 1) wr.heap.size u4 c (deadsF d)):=hI;obtain ⟨ao9,cap9,hs9⟩:=hI.slice;subst hs9;have zr:w.heap.size + 1 < wr.heap.size:=T.b2.lt
    have hck:c ≤ k:=by rw [hc];exact pick_le _ _
    clear hI hc
    by_cases hlt:k < d.groups.1
    · have HLT:Hid (k < d.groups.1):=hlt
      have t1:(k:Int) < (d.groups.1:Int):=by omega
      have CD:=isDead_any d [.int .i64 (d.shape 0),.int .i64 (d.shape 1),.int .i64 (d.shape 2),.int .i64 (d.shape 3),.int .i64 (d.shape 4),.int .i64 (d.shape 5),.int .i64 (d.shape 6),.int .i64 (d.shape 7),.int .i64 (d.shape 8),.slice ao1 d.groups.1 cap1,.slice ao2 d.on.1 cap2,.slice ao3 d.tapes.1 cap3,.int .i64 d.writes,.int .i64 d.stop,.bool d.down] hi k wr (layWorld.rd_below HRD.out T.bel hhi) (Nat.le_trans hhi T.bel.size) hlt
      go_wp2_with (refine wp_loadBox 37 (.tmp 1) rfl rfl (w.heap.size) rfl (cs:=[.int .i64 (d.shape 0),.int .i64 (d.shape 1),.int .i64 (d.shape 2),.int .i64 (d.shape 3),.int .i64 (d.shape 4),.int .i64 (d.shape 5),.int .i64 (d.shape 6),.int .i64 (d.shape 7),.int .i64 (d.shape 8),.slice ao1 d.groups.1 cap1,.slice ao2 d.on.1 cap2,.slice ao3 d.tapes.1 cap3,.int .i64 d.writes,.int .i64 d.stop,.bool d.down]) (T.b1) Tryz.underlying37 size_W rfl ?_)
      refine CD.mono ?_;rintro e w2 ⟨t,rfl,ht,b2⟩;have HT2:Hid (Two w w2 #[.int .i64 (d.shape 0),.int .i64 (d.shape 1),.int .i64 (d.shape 2),.int .i64 (d.shape 3),.int .i64 (d.shape 4),.int .i64 (d.shape 5),.int .i64 (d.shape 6),.int .i64 (d.shape 7),.int .i64 (d.shape 8),.slice ao1 d.groups.1 cap1,.slice ao2 d.on.1 cap2,.slice ao3 d.tapes.1 cap3,.int .i64 d.writes,.int .i64 d.stop,.bool d.down] #[.int .i64 0,.slice none 0 0] 37 31):=HT.out.call b2;have HI2:Hid (OwnI w2 (w.heap.size + 1 + 1) w2.heap.size (.slice ao9 c cap9) c (deadsF d)):=(HI.out.below b2 (Nat.le_refl _)).mono b2.size
      have Ht:Hid (t = deadB d k):=by
        show t = deadB d k
        cases t with
        | true => exact ((deadB_is d k).2 (ht.1 rfl)).symm
        | false =>
          cases hb:deadB d k with
          | false => rfl
          | true => have:=ht.2 ((deadB_is d k).1 hb);cases this
      have z2:wr.heap.size ≤ w2.heap.size:=b2.size;clear CD ht b2 HT HI T
      cases t with
      | false =>
        go_wp2
        go_roundw
        case rel => exact ⟨k + 1,by omega,by go_num,by rw [pick_skip Ht.out.symm,← HC.out];exact HI2.out,HT2.out⟩
        case measure => simp [intOf];omega
      | true =>
        have HF:Hid (deadsF d c = (k:Int)):=by
          show deadsF d c = (k:Int)
          have:=(pickF_at (p:=deadB d) Ht.out.symm d.groups.1 HLT.out).1;unfold deadsF;rw [HC.out,this]
        go_wp2_with (at_builtin;refine wp_appendI rfl (.tmp 22) (.tmp 24) rfl (w.heap.size + 1 + 1) w2.heap.size (.slice ao9 c cap9) c (deadsF d) ?_ ?_ w2.heap.size 1 ?_ ?_ (by omega) ?_ ?_;(simp [Act.eval]);exact HI2.out.alloc _;(simp [Act.eval]);(rw [HF.out];simp);(simp;omega);intro v2 w3 o3 b3)
        have b4:Below (w.heap.size + 1 + 1) w2 w3:=((Below.refl (w.heap.size + 1 + 1) w2).alloc (by omega) _).trans b3;have HT3:Hid (Two w w3 #[.int .i64 (d.shape 0),.int .i64 (d.shape 1),.int .i64 (d.shape 2),.int .i64 (d.shape 3),.int .i64 (d.shape 4),.int .i64 (d.shape 5),.int .i64 (d.shape 6),.int .i64 (d.shape 7),.int .i64 (d.shape 8),.slice ao1 d.groups.1 cap1,.slice ao2 d.on.1 cap2,.slice ao3 d.tapes.1 cap3,.int .i64 d.writes,.int .i64 d.stop,.bool d.down] #[.int .i64 0,.slice none 0 0] 37 31):=⟨HT2.out.b1.below b4 (by omega),HT2.out.b2.below b4 (by omega),HT2.out.bel.trans (b4.mono (by omega))⟩;have HI4:Hid (OwnI w3 (w.heap.size + 1 + 1) w3.heap.size v2 (c + 1) (deadsF d)):=o3;clear o3 b3 b4 HI2 HT2;go_wp2
        go_roundw
        case rel => exact ⟨k + 1,by omega,by go_num,by
          have e:(pickI (deadB d) (k + 1)).length = c + 1:=by rw [pick_succ,if_pos Ht.out.symm,List.length_append,← HC.out];rfl
          rw [e];exact HI4.out,HT3.out⟩
        case measure => simp [intOf];omega
    · obtain rfl:k = d.groups.1:=by omega
      clear hlt T;have OO:=gres_own HI.out (Nat.le_refl _) (deadsF_in HOK.out) 0 (by decide)
      go_wp2_with (refine wp_storeBox 31 _ _ rfl rfl (w.heap.size + 1) rfl (cs:=[.int .i64 0,.slice ao9 c cap9]) (old:=[.int .i64 0,.slice none 0 0]) rfl (HT.out.b2) size_Gr rfl rfl (OO.one) ?_;intro w9 X9 C9 z9)
      refine ret_box Tryz.results9 rfl X9 Tryz.underlying31 size_Gr rfl rfl ?_;have zz:=C9.size;have O9:=(OO.chgk C9 (fun b hb => by simp at hb;omega)).weaken (lo':=w.heap.size) (hi':=w9.heap.size) (by omega) zz;have HQ:DeadAns d ⟨0,(c,deadsF d)⟩:=.inr ⟨HX.out,by rw [HC.out]⟩;exact ⟨_,_,rfl,HQ,O9,HT.out.bel.trans (C9.bel (fun b hb => by simp at hb;omega) HT.out.bel.size)⟩
end Go.Proofs.YtbjblbbbafiepaaGreat
namespace Go.Proofs.YtbjblbbbafiepaaGreat
open Go.RowKit F256
theorem info_GR:(Tryz.prog.info? 31).map (fun i => (i.zero.map (·.cells),i.size)) = some (some #[.int .i64 0,.slice none 0 0],2):=by kernel_rfl
set_option maxHeartbeats 16000000 in
set_option maxRecDepth 20000 in
theorem specDead_any (d:WorldD) (cs:List Value) (hi:Nat) (w:World) (h:layWorld.rd w hi d cs) (hhi:hi ≤ w.heap.size) (hsz:szWorldD d ≤ 1048576) :
    Calls Tryz.prog 7 #[.agg cs.toArray] w (GrPost (DeadAns d) w):=by
  have h':=h;obtain ⟨ao1,cap1,ao2,cap2,ao3,cap3,rfl,g1,g2,g3,k0,k4,k5⟩:=World_rd h';have HRD:Hid (layWorld.rd w hi d [.int .i64 (d.shape 0),.int .i64 (d.shape 1),.int .i64 (d.shape 2),.int .i64 (d.shape 3),.int .i64 (d.shape 4),.int .i64 (d.shape 5),.int .i64 (d.shape 6),.int .i64 (d.shape 7),.int .i64 (d.shape 8),.slice ao1 d.groups.1 cap1,.slice ao2 d.on.1 cap2,.slice ao3 d.tapes.1 cap3,.int .i64 d.writes,.int .i64 d.stop,.bool d.down]):=h;have HSZ:Hid (szWorldD d ≤ 1048576):=hsz;clear h h' hsz g1 g2 g3 k0 k4 k5;have T0:=two_newb w #[.int .i64 (d.shape 0),.int .i64 (d.shape 1),.int .i64 (d.shape 2),.int .i64 (d.shape 3),.int .i64 (d.shape 4),.int .i64 (d.shape 5),.int .i64 (d.shape 6),.int .i64 (d.shape 7),.int .i64 (d.shape 8),.slice ao1 d.groups.1 cap1,.slice ao2 d.on.1 cap2,.slice ao3 d.tapes.1 cap3,.int .i64 d.writes,.int .i64 d.stop,.bool d.down] #[.int .i64 0,.slice none 0 0] 37 31
  go_enter Tryz.func7,Tryz.ntmps7
  go_wp2_with (refine wp_loadBox 37 (.tmp 1) rfl rfl (w.heap.size) rfl (cs:=[.int .i64 (d.shape 0),.int .i64 (d.shape 1),.int .i64 (d.shape 2),.int .i64 (d.shape 3),.int .i64 (d.shape 4),.int .i64 (d.shape 5),.int .i64 (d.shape 6),.int .i64 (d.shape 7),.int .i64 (d.shape 8),.slice ao1 d.groups.1 cap1,.slice ao2 d.on.1 cap2,.slice ao3 d.tapes.1 cap3,.int .i64 d.writes,.int .i64 d.stop,.bool d.down]) (T0.b1) Tryz.underlying37 size_W rfl ?_)
  refine (specWorld_any d _ hi _ (layWorld.rd_below HRD.out T0.bel hhi) (Nat.le_trans hhi T0.bel.size) (wld_ok_names HSZ.out)).mono ?_;rintro e w1 ⟨x,rfl,hx,b1⟩;have HT1:Hid (Two w w1 #[.int .i64 (d.shape 0),.int .i64 (d.shape 1),.int .i64 (d.shape 2),.int .i64 (d.shape 3),.int .i64 (d.shape 4),.int .i64 (d.shape 5),.int .i64 (d.shape 6),.int .i64 (d.shape 7),.int .i64 (d.shape 8),.slice ao1 d.groups.1 cap1,.slice ao2 d.on.1 cap2,.slice ao3 d.tapes.1 cap3,.int .i64 d.writes,.int .i64 d.stop,.bool d.down] #[.int .i64 0,.slice none 0 0] 37 31):=T0.call b1;have HX:Hid (WldAns d x):=hx;have z1:w.heap.size + 1 < w1.heap.size:=HT1.out.b2.lt;clear b1 T0 hx
  by_cases hx0:x = 0
  case neg =>
    have hne:(x != 0) = true:=by simp [hx0]
    go_wp2_with (refine wp_storeBox 31 _ _ rfl rfl (w.heap.size + 1) rfl (cs:=[.int .i64 x,.slice none 0 0]) (old:=[.int .i64 0,.slice none 0 0]) rfl (HT1.out.b2) size_Gr rfl rfl ((gcode_own w1 x (wld_small HX.out) 0 0 (Nat.zero_le _)).one) ?_;intro w9 X9 C9 z9)
    refine ret_box Tryz.results7 rfl X9 Tryz.underlying31 size_Gr rfl rfl ?_;have zz:=C9.size;exact ⟨⟨x,(0,fun _ => 0)⟩,[.int .i64 x,.slice none 0 0],rfl,.inl ⟨x,hx0,HX.out,rfl⟩,gcode_own w9 x (wld_small HX.out) _ _ (Nat.le_refl _),HT1.out.bel.trans (C9.bel (fun b hb => by simp at hb;omega) HT1.out.bel.size)⟩
  subst hx0;have HOK:Hid (OkWorld d):=WldAns.ok HX.out
  have hN:d.shape 0 + d.shape 1 = (d.groups.1:Int):=by have:=HOK.out.form.1.1;omega
  have hNs:d.groups.1 ≤ 100:=by
    obtain ⟨s1,s2,_⟩:=HOK.out.shape;unfold Shp3 at s1;omega
  have bL:Below w1.heap.size w1 (w1.alloc (.cells #[.int .i64 0,.slice none 0 0] 31)):=(Below.refl _ _).alloc (Nat.le_refl _) _;have XB:Box (w1.alloc (.cells #[.int .i64 0,.slice none 0 0] 31)) w1.heap.size #[.int .i64 0,.slice none 0 0] 31:=box_new _ _ _;have TL:Two w (w1.alloc (.cells #[.int .i64 0,.slice none 0 0] 31)) #[.int .i64 (d.shape 0),.int .i64 (d.shape 1),.int .i64 (d.shape 2),.int .i64 (d.shape 3),.int .i64 (d.shape 4),.int .i64 (d.shape 5),.int .i64 (d.shape 6),.int .i64 (d.shape 7),.int .i64 (d.shape 8),.slice ao1 d.groups.1 cap1,.slice ao2 d.on.1 cap2,.slice ao3 d.tapes.1 cap3,.int .i64 d.writes,.int .i64 d.stop,.bool d.down] #[.int .i64 0,.slice none 0 0] 37 31:=HT1.out.call bL;have I0:OwnI (w1.alloc (.cells #[.int .i64 0,.slice none 0 0] 31)) (w1.heap.size + 1) (w1.alloc (.cells #[.int .i64 0,.slice none 0 0] 31)).heap.size (.slice none 0 0) 0 (deadsF d):=ownI_nil _ _ _ _
  go_upto_region 5 with (refine wp_allocStore 31 4 (.tmp 12) [.int .i64 0,.slice none 0 0] _ 2 rfl rfl rfl rfl rfl rfl rfl rfl info_GR rfl rfl (gcode_own w1 0 (by decide) 0 0 (Nat.zero_le _)).one ?_)
  obtain ⟨W2,hW2⟩:∃ x,x = w1.alloc (.cells #[.int .i64 0,.slice none 0 0] 31):=⟨_,rfl⟩;rw [← hW2] at bL XB TL I0 ⊢;clear hW2 bL HT1;go_wp2
  go_loopw [5] (fun i wr => ∃ (k cap:Nat) (ao:Option Addr),k ≤ d.groups.1 ∧ i = .int .i64 k ∧ OwnI wr (w1.heap.size + 1) wr.heap.size (.slice ao (pickI (deadB d) k).length cap) (pickI (deadB d) k).length (deadsF d) ∧ Box wr w1.heap.size #[.int .i64 0,.slice ao (pickI (deadB d) k).length cap] 31 ∧ Two w wr #[.int .i64 (d.shape 0),.int .i64 (d.shape 1),.int .i64 (d.shape 2),.int .i64 (d.shape 3),.int .i64 (d.shape 4),.int .i64 (d.shape 5),.int .i64 (d.shape 6),.int .i64 (d.shape 7),.int .i64 (d.shape 8),.slice ao1 d.groups.1 cap1,.slice ao2 d.on.1 cap2,.slice ao3 d.tapes.1 cap3,.int .i64 d.writes,.int .i64 d.stop,.bool d.down] #[.int .i64 0,.slice none 0 0] 37 31) (fun i _ => d.groups.1 - (intOf i).toNat)
  case atStart => exact ⟨0,0,none,Nat.zero_le _,rfl,I0,XB,TL⟩
  case round =>
    clear I0 XB TL;obtain ⟨k,cap9,ao9,hk,rfl,hI,hX,T⟩:=hrel;obtain ⟨c,hc⟩:∃ c,c = (pickI (deadB d) k).length:=⟨_,rfl⟩;have HC:Hid (c = (pickI (deadB d) k).length):=hc;rw [← hc] at hI hX;have HT:Hid (Two w wr #[.int .i64 (d.shape 0),.int .i64 (d.shape 1),.int .i64 (d.shape 2),.int .i64 (d.shape 3),.int .i64 (d.shape 4),.int .i64 (d.shape 5),.int .i64 (d.shape 6),.int .i64 (d.shape 7),.int .i64 (d.shape 8),.slice ao1 d.groups.1 cap1,.slice ao2 d.on.1 cap2,.slice ao3 d.tapes.1 cap3,.int .i64 d.writes,.int .i64 d.stop,.bool d.down] #[.int .i64 0,.slice none 0 0] 37 31):=T;have HI:Hid (OwnI wr (w1.heap.size + 1) wr.heap.size (.slice ao9 c cap9) c (deadsF d)):=hI;have HXB:Hid (Box wr w1.heap.size #[.int .i64 0,.slice ao9 c cap9] 31):=hX;have zr:w1.heap.size < wr.heap.size:=hX.lt
    have hck:c ≤ k:=by rw [hc];exact pick_le _ _
    have x_0:wr.cell? ⟨w.heap.size,0,none⟩ = some (.int .i64 (d.shape 0)):=T.b1.cell 0;have x_1:wr.cell? ⟨w.heap.size,1,none⟩ = some (.int .i64 (d.shape 1)):=T.b1.cell 1;have x_2:wr.cell? ⟨w.heap.size,2,none⟩ = some (.int .i64 (d.shape 2)):=T.b1.cell 2;have x_3:wr.cell? ⟨w.heap.size,3,none⟩ = some (.int .i64 (d.shape 3)):=T.b1.cell 3;have x_4:wr.cell? ⟨w.heap.size,4,none⟩ = some (.int .i64 (d.shape 4)):=T.b1.cell 4;have x_5:wr.cell? ⟨w.heap.size,5,none⟩ = some (.int .i64 (d.shape 5)):=T.b1.cell 5;have x_6:wr.cell? ⟨w.heap.size,6,none⟩ = some (.int .i64 (d.shape 6)):=T.b1.cell 6;have x_7:wr.cell? ⟨w.heap.size,7,none⟩ = some (.int .i64 (d.shape 7)):=T.b1.cell 7;have x_8:wr.cell? ⟨w.heap.size,8,none⟩ = some (.int .i64 (d.shape 8)):=T.b1.cell 8;have CG:=l5All_any d.shape HOK.out.shape wr;rw [hN] at CG;unfold shapeV at CG;clear hI hc hX T
    go_wp2_with fail
    refine CG.mono ?_;rintro e wq ⟨rfl,bq⟩;have HTq:Hid (Two w wq #[.int .i64 (d.shape 0),.int .i64 (d.shape 1),.int .i64 (d.shape 2),.int .i64 (d.shape 3),.int .i64 (d.shape 4),.int .i64 (d.shape 5),.int .i64 (d.shape 6),.int .i64 (d.shape 7),.int .i64 (d.shape 8),.slice ao1 d.groups.1 cap1,.slice ao2 d.on.1 cap2,.slice ao3 d.tapes.1 cap3,.int .i64 d.writes,.int .i64 d.stop,.bool d.down] #[.int .i64 0,.slice none 0 0] 37 31):=HT.out.call bq;have HIq:Hid (OwnI wq (w1.heap.size + 1) wq.heap.size (.slice ao9 c cap9) c (deadsF d)):=(HI.out.below bq (Nat.le_refl _)).mono bq.size;have HXq:Hid (Box wq w1.heap.size #[.int .i64 0,.slice ao9 c cap9] 31):=HXB.out.call bq;have zq:wr.heap.size ≤ wq.heap.size:=bq.size;clear CG bq HT HI HXB x_0 x_1 x_2 x_3 x_4 x_5 x_6 x_7 x_8
    by_cases hlt:k < d.groups.1
    · have HLT:Hid (k < d.groups.1):=hlt
      have t1:(k:Int) < (d.groups.1:Int):=by omega
      have CD:=l7Dead_any d [.int .i64 (d.shape 0),.int .i64 (d.shape 1),.int .i64 (d.shape 2),.int .i64 (d.shape 3),.int .i64 (d.shape 4),.int .i64 (d.shape 5),.int .i64 (d.shape 6),.int .i64 (d.shape 7),.int .i64 (d.shape 8),.slice ao1 d.groups.1 cap1,.slice ao2 d.on.1 cap2,.slice ao3 d.tapes.1 cap3,.int .i64 d.writes,.int .i64 d.stop,.bool d.down] hi w.heap.size k wq (layWorld.rd_below HRD.out HTq.out.bel hhi) (Nat.le_trans hhi HTq.out.bel.size) HTq.out.b1 hlt
      go_wp2_with fail
      refine CD.mono ?_;rintro e w2 ⟨t,rfl,ht,b2⟩;have HT2:Hid (Two w w2 #[.int .i64 (d.shape 0),.int .i64 (d.shape 1),.int .i64 (d.shape 2),.int .i64 (d.shape 3),.int .i64 (d.shape 4),.int .i64 (d.shape 5),.int .i64 (d.shape 6),.int .i64 (d.shape 7),.int .i64 (d.shape 8),.slice ao1 d.groups.1 cap1,.slice ao2 d.on.1 cap2,.slice ao3 d.tapes.1 cap3,.int .i64 d.writes,.int .i64 d.stop,.bool d.down] #[.int .i64 0,.slice none 0 0] 37 31):=HTq.out.call b2;have HI2:Hid (OwnI w2 (w1.heap.size + 1) w2.heap.size (.slice ao9 c cap9) c (deadsF d)):=(HIq.out.below b2 (Nat.le_refl _)).mono b2.size;have X2:=HXq.out.call b2;have HX2:Hid (Box w2 w1.heap.size #[.int .i64 0,.slice ao9 c cap9] 31):=X2
      have Ht:Hid (t = deadB d k):=by
        show t = deadB d k
        cases t with
        | true => exact ((deadB_is d k).2 (ht.1 rfl)).symm
        | false =>
          cases hb:deadB d k with
          | false => rfl
          | true => have:=ht.2 ((deadB_is d k).1 hb);cases this
      have z2:wq.heap.size ≤ w2.heap.size:=b2.size;have x1:w2.cell? ⟨w1.heap.size,1,none⟩ = some (.slice ao9 c cap9):=X2.cell 1;clear CD ht b2 HTq HIq HXq X2
      cases t with
      | false =>
        clear x1;go_wp2
        go_roundw
        case rel => exact ⟨k + 1,cap9,ao9,by omega,by go_num,by rw [pick_skip Ht.out.symm,← HC.out];exact ⟨HI2.out,HX2.out,HT2.out⟩⟩
        case measure => simp [intOf];omega
      | true =>
        have HF:Hid (deadsF d c = (k:Int)):=by
          show deadsF d c = (k:Int)
          have:=(pickF_at (p:=deadB d) Ht.out.symm d.groups.1 HLT.out).1;unfold deadsF;rw [HC.out,this]
        go_wp2_with (at_builtin;refine wp_appendI rfl (.tmp 23) (.tmp 25) rfl (w1.heap.size + 1) w2.heap.size (.slice ao9 c cap9) c (deadsF d) ?_ ?_ w2.heap.size 1 ?_ ?_ (by omega) ?_ ?_;(simp [Act.eval]);exact HI2.out.alloc _;(simp [Act.eval]);(rw [HF.out];simp);(simp;omega);intro v2 w3 o3 b3;obtain ⟨ao3',cap3',rfl⟩:=o3.slice;have b4:Below (w1.heap.size + 1) w2 w3:=((Below.refl (w1.heap.size + 1) w2).alloc (by omega) _).trans b3;have X3:=HX2.out.below b4 (by omega);have y1:w3.cell? ⟨w1.heap.size,1,none⟩ = some (.slice ao9 c cap9):=X3.cell 1;have f1:w3.frozen? ⟨w1.heap.size,1,none⟩ = false:=X3.frozen 1)
        have X4:Box (w3.setCell ⟨w1.heap.size,1,none⟩ (.slice ao3' (c + 1) cap3')) w1.heap.size #[.int .i64 0,.slice ao3' (c + 1) cap3'] 31:=X3.setc 1 _;have I4:OwnI (w3.setCell ⟨w1.heap.size,1,none⟩ (.slice ao3' (c + 1) cap3')) (w1.heap.size + 1) w3.heap.size (.slice ao3' (c + 1) cap3') (c + 1) (deadsF d):=o3.out (out_store w3 w1.heap.size (w1.heap.size + 1) w1.heap.size 1 _ (Nat.le_refl _) (by omega)) (.inr (Nat.le_refl _));have T3:Two w w3 #[.int .i64 (d.shape 0),.int .i64 (d.shape 1),.int .i64 (d.shape 2),.int .i64 (d.shape 3),.int .i64 (d.shape 4),.int .i64 (d.shape 5),.int .i64 (d.shape 6),.int .i64 (d.shape 7),.int .i64 (d.shape 8),.slice ao1 d.groups.1 cap1,.slice ao2 d.on.1 cap2,.slice ao3 d.tapes.1 cap3,.int .i64 d.writes,.int .i64 d.stop,.bool d.down] #[.int .i64 0,.slice none 0 0] 37 31:=⟨HT2.out.b1.below b4 (by omega),HT2.out.b2.below b4 (by omega),HT2.out.bel.trans (b4.mono (by omega))⟩;have HT4:Hid (Two w (w3.setCell ⟨w1.heap.size,1,none⟩ (.slice ao3' (c + 1) cap3')) #[.int .i64 (d.shape 0),.int .i64 (d.shape 1),.int .i64 (d.shape 2),.int .i64 (d.shape 3),.int .i64 (d.shape 4),.int .i64 (d.shape 5),.int .i64 (d.shape 6),.int .i64 (d.shape 7),.int .i64 (d.shape 8),.slice ao1 d.groups.1 cap1,.slice ao2 d.on.1 cap2,.slice ao3 d.tapes.1 cap3,.int .i64 d.writes,.int .i64 d.stop,.bool d.down] #[.int .i64 0,.slice none 0 0] 37 31):=T3.chgl (P:=w1.heap.size) ((ChgL.refl _ w3).st _ 1 _ (by simp)) (by omega);have HX4:Hid (Box (w3.setCell ⟨w1.heap.size,1,none⟩ (.slice ao3' (c + 1) cap3')) w1.heap.size #[.int .i64 0,.slice ao3' (c + 1) cap3'] 31):=X4;have HI4:Hid (OwnI (w3.setCell ⟨w1.heap.size,1,none⟩ (.slice ao3' (c + 1) cap3')) (w1.heap.size + 1) (w3.setCell ⟨w1.heap.size,1,none⟩ (.slice ao3' (c + 1) cap3')).heap.size (.slice ao3' (c + 1) cap3') (c + 1) (deadsF d)):=I4.mono (by simp);clear o3 b3 b4 HI2 HT2 HX2 X3 X4 I4 T3 x1 y1 f1;go_wp2
        go_roundw
        case rel => exact ⟨k + 1,cap3',ao3',by omega,by go_num,by
          have e:(pickI (deadB d) (k + 1)).length = c + 1:=by rw [pick_succ,if_pos Ht.out.symm,List.length_append,← HC.out];rfl
          rw [e];exact ⟨HI4.out,HX4.out,HT4.out⟩⟩
        case measure => simp [intOf];omega
    · obtain rfl:k = d.groups.1:=by omega
      have t1:decide ((d.groups.1:Int) < (d.groups.1:Int)) = false:=by simp
      clear hlt;have OO:=gres_own HIq.out (Nat.le_refl _) (deadsF_in HOK.out) 0 (by decide)
      go_wp2_with (first | (refine wp_loadBox 31 (.tmp 4) rfl rfl (w1.heap.size) rfl (cs:=[.int .i64 0,.slice ao9 c cap9]) (HXq.out) Tryz.underlying31 size_Gr rfl ?_) | (refine wp_storeBox 31 _ _ rfl rfl (w.heap.size + 1) rfl (cs:=[.int .i64 0,.slice ao9 c cap9]) (old:=[.int .i64 0,.slice none 0 0]) rfl (HTq.out.b2) size_Gr rfl rfl (OO.one) ?_;intro w9 X9 C9 z9))
      refine ret_box Tryz.results7 rfl X9 Tryz.underlying31 size_Gr rfl rfl ?_;have zz:=C9.size;have O9:=(OO.chgk C9 (fun b hb => by simp at hb;omega)).weaken (lo':=w.heap.size) (hi':=w9.heap.size) (by omega) zz;have HQ:DeadAns d ⟨0,(c,deadsF d)⟩:=.inr ⟨HX.out,by rw [HC.out]⟩;exact ⟨_,_,rfl,HQ,O9,HTq.out.bel.trans (C9.bel (fun b hb => by simp at hb;omega) HTq.out.bel.size)⟩
end Go.Proofs.YtbjblbbbafiepaaGreat
namespace Go.Proofs.YtbjblbbbafiepaaGreat
open Go.RowKit
section
variable {P:Program} {ops:Array Oper} {Q:Exit → Act → World → Prop} {md:Region.Mode} {S:World → Prop} {L:Nat}
def wpAnyL (P:Program) (md:Region.Mode) (ops:Array Oper) (Q:Exit → Act → World → Prop) (S:World → Prop) (L:Nat):Nat → Array Bool → Act → World → Prop
  | 0,listed,a,w => Region.ready md ops listed = [] ∧ Q .normal a w
  | fuel + 1,listed,a,w =>
    (Region.ready md ops listed = [] → Q .normal a w) ∧
    ∀ i ∈ Region.ready md ops listed,wpOp P ops Q i (fun a' w' => (i ≠ L → S w') ∧ wpAnyL P md ops Q S L fuel (listed.setIfInBounds i true) a' w') a w
theorem wpAny_of_L:∀ (fuel:Nat) (listed:Array Bool) (a:Act) (w:World),wpAnyL P md ops Q S L fuel listed a w → wpAny P md ops Q fuel listed a w
  | 0,_,_,_,h => h
  | fuel + 1,_,_,_,h => ⟨h.1,fun i hi => wpOp_mono (fun a' w' h' => wpAny_of_L fuel _ a' w' h'.2) (h.2 i hi)⟩
def ClosedP (md:Region.Mode) (ops:Array Oper) (listed:Array Bool):Prop :=
  ∀ j oj,ops[j]? = some oj → listed.getD j false = true → ∀ e ∈ oj.after,Region.binds md e = true → listed.getD e.on false = true
def closedB (md:Region.Mode) (ops:Array Oper) (listed:Array Bool):Bool :=
  (List.range ops.size).all fun j => !listed.getD j false || ((ops[j]?).map (·.after.all fun e => !Region.binds md e || listed.getD e.on false)).getD false
theorem closed_of {listed:Array Bool} (h:closedB md ops listed = true):ClosedP md ops listed:=fun j oj hj hl e he hb => by
  unfold closedB at h;have hlt:j < ops.size:=(Array.getElem?_eq_some_iff.1 hj).1;have h1:=List.all_eq_true.1 h j (List.mem_range.2 hlt);rw [hl,hj] at h1
  simp only [Bool.not_true,Bool.false_or,Option.map_some,Option.getD_some,Array.all_eq_true_iff_forall_mem] at h1
  have h2:=h1 e he;rw [hb] at h2
  simpa using h2
theorem closed_step {listed:Array Bool} {j:Nat} (h:ClosedP md ops listed) (hj:j ∈ Region.ready md ops listed):ClosedP md ops (listed.setIfInBounds j true):=fun k ok hk hl e he hb => by
  obtain ⟨_,o,ho,hall⟩:=mem_ready.1 hj
  by_cases c:j = k
  · subst c
    rw [hk] at ho
    cases ho
    exact getD_set_true (hall e he hb)
  · rw [getD_set_ne false c] at hl
    exact getD_set_true (h k ok hk hl e he hb)
def depB (md:Region.Mode) (ops:Array Oper):Nat → Nat → Nat → Bool
  | 0,l,i => l == i
  | n + 1,l,i => l == i || ((ops[l]?).map (·.after.any fun e => Region.binds md e && depB md ops n e.on i)).getD false
theorem dep_listed {listed:Array Bool} (hc:ClosedP md ops listed):∀ (n l i:Nat),depB md ops n l i = true → listed.getD l false = true → listed.getD i false = true
  | 0,l,i,h,hl => by
    unfold depB at h
    have:l = i:=by simpa using h
    rw [← this];exact hl
  | n + 1,l,i,h,hl => by
    unfold depB at h
    rcases Bool.or_eq_true _ _ ▸ h with h1 | h1
    · have:l = i:=by simpa using h1
      rw [← this];exact hl
    · cases ho:ops[l]? with
      | none => rw [ho] at h1;simp at h1
      | some o =>
        rw [ho] at h1
        simp only [Option.map_some,Option.getD_some] at h1
        obtain ⟨k,hk,hbk⟩:=Array.any_eq_true.1 h1;obtain ⟨hb,hd⟩:=Bool.and_eq_true _ _ ▸ hbk;exact dep_listed hc n _ i hd (hc l o ho hl _ (Array.getElem_mem hk) hb)
theorem dep_waits {listed:Array Bool} (hc:ClosedP md ops listed) {n i:Nat} (hne:L ≠ i) (hd:depB md ops n L i = true) (hi:listed.getD i false = false):L ∉ Region.ready md ops listed:=fun hL => by
  obtain ⟨_,o,ho,hall⟩:=mem_ready.1 hL
  cases n with
  | zero => unfold depB at hd;exact hne (by simpa using hd)
  | succ n =>
    unfold depB at hd
    rcases Bool.or_eq_true _ _ ▸ hd with h1 | h1
    · exact hne (by simpa using h1)
    · rw [ho] at h1
      simp only [Option.map_some,Option.getD_some] at h1
      obtain ⟨k,hk,hbk⟩:=Array.any_eq_true.1 h1;obtain ⟨hb,hd'⟩:=Bool.and_eq_true _ _ ▸ hbk;have:=dep_listed hc n _ i hd' (hall _ (Array.getElem_mem hk) hb);rw [hi] at this
      cases this
theorem unlisted_false {listed:Array Bool} {i:Nat} (h:listed.getD i true = false):listed.getD i false = false:=by
  rcases Nat.lt_or_ge i listed.size with h' | h'
  · simpa [h'] using h
  · simp [Array.getElem?_eq_none h'] at h
theorem wpAnyL_first {i:Nat} {oi:Oper} {v:Value} (hi:ops[i]? = some oi) (hsel:∀ (j:Nat) (o:Oper) cs b,ops[j]? = some o → o.op ≠ .select cs b)
    (hQ:∀ c a w,Q (.panic c) (a.put oi.dst v) w → Q (.panic c) a w) (hLi:L ≠ i) {n:Nat} (hd:depB md ops n L i = true) :
    ∀ (fuel:Nat) (listed:Array Bool) (a:Act) (w:World),ClosedP md ops listed →
      (∀ j oj,ops[j]? = some oj → j ≠ i → listed.getD j true = false → (∀ e ∈ oj.after,Region.binds md e = true → e.on ≠ i) → oi.apart ops oj = true) →
      i ∈ Region.ready md ops listed → YieldsIf P ops S oi v a → S w →
      wpAnyL P md ops Q S L fuel (listed.setIfInBounds i true) (a.put oi.dst v) w → wpAnyL P md ops Q S L (fuel + 1) listed a w:=by
  intro fuel
  induction fuel with
  | zero =>
    intro listed a w _ _ hr hy hS H;refine ⟨fun h => (by rw [h] at hr;cases hr),fun j hj => ?_⟩
    by_cases hji:j = i
    · subst hji;exact hy.wpOp hi hS ⟨fun _ => hS,H⟩
    · have:=ready_mono hj hji
      rw [H.1] at this
      cases this
  | succ fuel ih =>
    intro listed a w hcl hfree hr hy hS H;refine ⟨fun h => (by rw [h] at hr;cases hr),fun j hj => ?_⟩
    by_cases hji:j = i
    · subst hji;exact hy.wpOp hi hS ⟨fun _ => hS,H⟩
    · have hjL:j ≠ L:=fun h => by
        subst h;exact dep_waits hcl hLi hd (unlisted_false (mem_ready.1 hr).1) hj
      have h1:=H.2 j (ready_mono hj hji);obtain ⟨hjun,oj,hoj,hall⟩:=mem_ready.1 hj
      have hnot:∀ e ∈ oj.after,Region.binds md e = true → e.on ≠ i:=fun e he hb heq => by
        have h1:=hall e he hb;have h0:=unlisted_false (mem_ready.1 hr).1;rw [heq,h0] at h1
        cases h1
      have h2:=wpOp_putIf hoj (hfree j oj hoj hji hjun hnot) (fun cs b => hsel i oi cs b hi) (fun cs b => hsel j oj cs b hoj) hQ hy h1
      have hfree':∀ k ok,ops[k]? = some ok → k ≠ i → (listed.setIfInBounds j true).getD k true = false →
          (∀ e ∈ ok.after,Region.binds md e = true → e.on ≠ i) → oi.apart ops ok = true:=fun k ok hk hki hun hno => by
        refine hfree k ok hk hki ?_ hno
        by_cases hjk:j = k
        · subst hjk;exact hjun
        · rw [getD_set_ne true hjk] at hun;exact hun
      refine wpOp_mono (fun a' w' h3 => ⟨h3.2.1,ih (listed.setIfInBounds j true) a' w' (closed_step hcl hj) hfree' (ready_mono hr (Ne.symm hji)) h3.1 (h3.2.1 hjL) ?_⟩) h2;rw [Array.setIfInBounds_comm _ _ hji];exact h3.2.2
theorem wpAnyL_take {i:Nat} {oi:Oper} {v:Value} {fuel:Nat} {listed:Array Bool} {a:Act} {w:World} (n:Nat) (hi:ops[i]? = some oi)
    (hs:(Region.noSelect ops && Region.free md ops listed i && (Region.ready md ops listed).contains i && !(L == i) && depB md ops n L i && closedB md ops listed) = true)
    (hQ:∀ c a w,Q (.panic c) (a.put oi.dst v) w → Q (.panic c) a w) (hy:YieldsIf P ops S oi v a) (hS:S w)
    (h:wpAnyL P md ops Q S L fuel (listed.setIfInBounds i true) (a.put oi.dst v) w):wpAnyL P md ops Q S L (fuel + 1) listed a w:=by
  simp only [Bool.and_eq_true,Bool.not_eq_true',beq_eq_false_iff_ne] at hs
  obtain ⟨⟨⟨⟨⟨h1,h2⟩,h3⟩,h4⟩,h5⟩,h6⟩:=hs;exact wpAnyL_first hi (Region.noSelect_spec h1) hQ h4 h5 fuel listed a w (closed_of h6) (Region.free_spec hi h2) (by simpa using h3) hy hS h
theorem wpAnyL_one {i:Nat} {o:Oper} {fuel:Nat} {listed:Array Bool} {a:Act} {w:World} (ho:ops[i]? = some o) (hr:Region.ready md ops listed = [i])
    (h:∀ K':Act → World → Prop,Shut (∀ a w,S w → (S w → wpAnyL P md ops Q S L fuel (listed.setIfInBounds i true) a w) → K' a w) → if Region.wanted o (yielded ops a.tmps) = true then Oper.wp P o a w K' Q else K' (a.put o.dst undef) w):wpAnyL P md ops Q S L (fuel + 1) listed a w:=by
  refine ⟨fun h0 => (by rw [hr] at h0;cases h0),fun j hj => ?_⟩;rw [hr] at hj
  obtain rfl:j = i:=by simpa using hj
  exact wpOp_step ho (fun K' hK => h K' (fun a w hS hW => hK a w ⟨fun _ => hS,hW hS⟩))
theorem wpAnyL_last {o:Oper} {fuel:Nat} {listed:Array Bool} {a:Act} {w:World} (ho:ops[L]? = some o) (hr:Region.ready md ops listed = [L])
    (h:∀ K':Act → World → Prop,Shut (∀ a w,wpAnyL P md ops Q S L fuel (listed.setIfInBounds L true) a w → K' a w) → if Region.wanted o (yielded ops a.tmps) = true then Oper.wp P o a w K' Q else K' (a.put o.dst undef) w):wpAnyL P md ops Q S L (fuel + 1) listed a w:=by
  refine ⟨fun h0 => (by rw [hr] at h0;cases h0),fun j hj => ?_⟩;rw [hr] at hj
  obtain rfl:j = L:=by simpa using hj
  exact wpOp_step ho (fun K' hK => h K' (fun a w hW => hK a w ⟨fun hn => absurd rfl hn,hW⟩))
theorem wpAnyL_done {listed:Array Bool} {a:Act} {w:World} (hr:Region.ready md ops listed = []) (h:Q .normal a w):∀ fuel,wpAnyL P md ops Q S L fuel listed a w
  | 0 => ⟨hr,h⟩
  | _ + 1 => ⟨fun _ => h,by rw [hr];simp⟩
theorem wp_region_L {id:Nat} {a:Act} {w:World} (L:Nat) (S:World → Prop) (hm:P.follows .mixedOrders = true) (hS:S w.drew)
    (h:S w.drew → wpAnyL P .any ops Q S L ops.size (Array.replicate ops.size false) a w.drew):(Code.region id ops true).wp P Q a w :=
  wp_region_any hm (wpAny_of_L _ _ _ _ (h hS))
end
end Go.Proofs.YtbjblbbbafiepaaGreat
namespace Go.Proofs.YtbjblbbbafiepaaGreat
open Go.RowKit
section
variable {ops:Array Oper} {Q:Exit → Act → World → Prop} {md:Region.Mode} {S:World → Prop} {L:Nat}
theorem load_yield {o:Oper} {a:Act} (T:TypeId) (x:Operand) (ho:o.op = .load T x) (hg:o.guard = none) (b:Nat) (hx:a.eval x = .pointer (some ⟨b,0,none⟩)) {cs:List Value} (hB:∀ w,S w → Box w b cs.toArray T) {fs:Array Field} (hu:Tryz.prog.underlying T = some (.struct fs)) {n:Nat} (hi:(Tryz.prog.info? T).map (·.size) = some n) (hl:cs.length = n):YieldsIf Tryz.prog ops S o (.agg cs.toArray) a:=by
  refine .inl ⟨by simp [Region.wanted,hg],fun w hS => ?_⟩;unfold execOp
  simp only [ho,hx,Instr.loadAt,Instr.sureAddr,Sem.run_bind,Sem.run_pure,Result.andThen_ok,run_loadVar_row w b T T cs.toArray (0,0) (.struct fs) (hB w hS) hu rfl (by rw [hi];simp [hl])]
end
theorem below_drew (w:World):Below w.heap.size w w.drew:=⟨rfl,rfl,rfl,Nat.le_refl _,fun _ _ => rfl⟩
end Go.Proofs.YtbjblbbbafiepaaGreat
namespace Go.Proofs.YtbjblbbbafiepaaGreat
open Go.RowKit F256
set_option maxHeartbeats 8000000 in
set_option maxRecDepth 20000 in
theorem eqGroupsResult_is:EqV layGroupsResult 10:=fun c1 c2 d h1 h2 w r1 r2 u1 u2 => by
  obtain ⟨ao1,cap1,rfl,g1,-⟩:=GroupsResult_rd r1;obtain ⟨bao1,bcap1,rfl,q1,-⟩:=GroupsResult_rd r2;clear r1 r2;have G1:Hid (layInts.rd w h1 d.groups [.slice ao1 d.groups.1 cap1]):=g1;have E1:Hid (layInts.rd w h2 d.groups [.slice bao1 d.groups.1 bcap1]):=q1;clear g1 q1
  go_enter Tryz.func10,Tryz.ntmps10
  go_wp2_with fail
  have T0:=two_newb w #[.int .i64 d.code,.slice ao1 d.groups.1 cap1] #[.int .i64 d.code,.slice bao1 d.groups.1 bcap1] 31 31;refine (eqInts_is _ _ d.groups h1 h2 _ (layInts.rd_below G1.out T0.bel u1) (layInts.rd_below E1.out T0.bel u2) (Nat.le_trans u1 T0.bel.size) (Nat.le_trans u2 T0.bel.size)).mono ?_;rintro e w1 ⟨rfl,b1⟩;have T1:Two w w1 #[.int .i64 d.code,.slice ao1 d.groups.1 cap1] #[.int .i64 d.code,.slice bao1 d.groups.1 bcap1] 31 31:=T0.call b1;clear T0 b1;have B:Hid (Below w.heap.size w w1):=T1.bel;clear T1;go_wp2;go_ret;exact ⟨rfl,B.out⟩
end Go.Proofs.YtbjblbbbafiepaaGreat
namespace Go.Proofs.YtbjblbbbafiepaaGreat
open Go.RowKit F256
set_option maxHeartbeats 4000000 in
theorem markGroupsResult_is:MkV layGroupsResult cvGroupsResultD mkvGroupsResultD 13:=fun cs d L j w h nd hj => by
  obtain ⟨ao1,cap1,K1,rfl,hLL,o1,k0⟩:=GroupsResult_own h;clear h;have hLM:=hLL.symm;subst hLM;unfold cvGroupsResultD at hj ⊢;have Z1:=layInts.own_lt o1;have bz:Below w.heap.size w (w.alloc (.cells #[.int .i64 d.code,.slice ao1 d.groups.1 cap1] 31)):=(Below.refl _ _).alloc (Nat.le_refl _) _;have B0:Hid (Box (w.alloc (.cells #[.int .i64 d.code,.slice ao1 d.groups.1 cap1] 31)) w.heap.size #[.int .i64 d.code,.slice ao1 d.groups.1 cap1] 31):=box_new _ _ _;have CH0:Hid (ChgL (K1) w (w.alloc (.cells #[.int .i64 d.code,.slice ao1 d.groups.1 cap1] 31))):=ChgL.of_below bz;have O0_1:Hid (layInts.own (w.alloc (.cells #[.int .i64 d.code,.slice ao1 d.groups.1 cap1] 31)) d.groups [.slice ao1 d.groups.1 cap1] K1):=layInts.own_kept o1 (fun b hb => bz.block b (Z1 b hb));clear bz o1
  go_enter Tryz.func13,Tryz.ntmps13
  go_wp2_with fail
  refine (markInts_is _ d.groups K1 (j) _ O0_1.out nd (by omega)).mono ?_;rintro e w1 ⟨rfl,p1,q1⟩;have O1_1:Hid (layInts.own w1 (mkInts (j) d.groups) [.slice ao1 d.groups.1 cap1] K1):=p1;have B1:Hid (Box w1 w.heap.size #[.int .i64 d.code,.slice ao1 d.groups.1 cap1] 31):=(q1.block w.heap.size B0.out.lt (fun hb => by have:=Z1 _ hb;omega)).trans B0.out;have CH1:Hid (ChgL (K1) w w1):=CH0.out.sub q1 (fun b hb => hb);clear p1 q1;go_wp2;go_ret;exact ⟨ret_eq (by omega),GroupsResult_mk (mkvGroupsResultD j d) O1_1.out k0,CH1.out⟩
end Go.Proofs.YtbjblbbbafiepaaGreat
namespace Go.Proofs.YtbjblbbbafiepaaGreat
open Go.RowKit F256
set_option maxHeartbeats 4000000 in
theorem heldGroupsResult_is:HdV layGroupsResult cvGroupsResultD mkvGroupsResultD 14:=fun cs d hi j w h hhi hj => by
  obtain ⟨ao1,cap1,rfl,r1,-⟩:=GroupsResult_rd h;clear h;unfold cvGroupsResultD at hj ⊢;have R1:Hid (layInts.rd w hi (mkInts (j) d.groups) [.slice ao1 d.groups.1 cap1]):=r1;clear r1
  change Calls Tryz.prog 14 #[.agg #[.int .i64 d.code,.slice ao1 d.groups.1 cap1],.int .i64 j] w _
  go_enter Tryz.func14,Tryz.ntmps14
  go_wp2_with fail
  have T0:=one_new w #[.int .i64 d.code,.slice ao1 d.groups.1 cap1] 31;refine (heldInts_is _ d.groups hi (j) _ (layInts.rd_below R1.out T0.bel hhi) (Nat.le_trans hhi T0.bel.size) (by omega)).mono ?_;rintro e w1 ⟨rfl,b1⟩;have T1:One w w1 #[.int .i64 d.code,.slice ao1 d.groups.1 cap1] 31:=T0.call b1
  have hz1:¬ (((j + lenD d.groups:Nat):Int) < 0):=by omega
  have HB:Hid (Below w.heap.size w w1):=T1.bel;clear b1 T1;go_wp2;go_ret;exact ⟨ret_eq (by omega),HB.out⟩
end Go.Proofs.YtbjblbbbafiepaaGreat
namespace Go.Proofs.YtbjblbbbafiepaaGreat
open Go.ChangeShapes Go.WideShapes Go.ChangeAt Go.RowKit F256
theorem res2_GroupsResult {w:World} {hi:Nat} {d:GroupsResultD} {cs:List Value} (h:layGroupsResult.rd w hi d cs):∃ v0 vp vl vq,cs = [.int .i64 v0,.slice vp vl vq]:=by
  obtain ⟨p1,pc1,rfl,-⟩:=GroupsResult_rd h;exact ⟨_,_,_,_,rfl⟩
theorem info_GroupsResult:(Tryz.prog.info? 31).map (fun i => (i.zero.map (·.cells),i.size)) = some (some #[.int .i64 0,.slice none 0 0],2):=by kernel_rfl
theorem dead_ex (d:WorldD):∃ q,DeadAns d q:=by
  obtain ⟨x,hx⟩:=world_ex d
  by_cases h:x = 0
  · subst h;exact ⟨_,.inr ⟨hx,rfl⟩⟩
  · exact ⟨_,.inl ⟨x,h,hx,rfl⟩⟩
theorem dead_cv {d:WorldD} {q:GroupsResultD} (hq:DeadAns d q) (hsz:szWorldD d ≤ 1048576):cvGroupsResultD q ≤ 90000000:=by
  rcases hq with ⟨x,_,_,rfl⟩ | ⟨h0,rfl⟩
  · exact Nat.zero_le _
  · have h1:=pick_le (deadB d) d.groups.1
    have h2:=(WldAns.ok h0).form.1.1;obtain ⟨s1,s2,_⟩:=(WldAns.ok h0).shape;unfold Shp3 at s1
    show (pickI (deadB d) d.groups.1).length ≤ _
    omega
theorem dead_det {d:WorldD} {q:GroupsResultD} {w:World} {f:Nat} {args:Array Value} (hq:DeadAns d q) (h:Calls Tryz.prog f args w (GrPost (DeadAns d) w)):Calls Tryz.prog f args w fun e w' => ∃ cs,e = .returned (.agg cs.toArray) ∧ OwnT layGroupsResult w' w.heap.size w'.heap.size q cs ∧ Below w.heap.size w w' :=
  h.mono fun e w' ⟨d',cs,h1,h2,h3,h4⟩ => ⟨cs,h1,by rw [hq.one h2];exact h3,h4⟩
theorem size_GR:(Tryz.prog.info? 31).map (·.size) = some 2:=by kernel_rfl
set_option maxHeartbeats 16000000 in
set_option maxRecDepth 20000 in
theorem fnExactDeadGroups_walk (d:WorldD) (cs:List Value)  (w:World) (rd0:layWorld.rd w w.heap.size d cs)  :
    Calls Tryz.prog 3 #[.agg cs.toArray] w fun e w' => e = .returned (.bool true) ∧ Below w.heap.size w w':=by
  obtain ⟨v0,v1,v2,v3,v4,v5,v6,v7,v8,vp0,vl0,vq0,vp1,vl1,vq1,vp2,vl2,vq2,v9,v10,vb,rfl⟩:=world15 rd0;have HR:Hid (layWorld.rd w w.heap.size d [.int .i64 v0,.int .i64 v1,.int .i64 v2,.int .i64 v3,.int .i64 v4,.int .i64 v5,.int .i64 v6,.int .i64 v7,.int .i64 v8,.slice vp0 vl0 vq0,.slice vp1 vl1 vq1,.slice vp2 vl2 vq2,.int .i64 v9,.int .i64 v10,.bool vb]):=rd0
  skip
  clear rd0 ;have T0:=one_new w #[.int .i64 v0,.int .i64 v1,.int .i64 v2,.int .i64 v3,.int .i64 v4,.int .i64 v5,.int .i64 v6,.int .i64 v7,.int .i64 v8,.slice vp0 vl0 vq0,.slice vp1 vl1 vq1,.slice vp2 vl2 vq2,.int .i64 v9,.int .i64 v10,.bool vb] 28
  go_enter Tryz.func3,Tryz.ntmps3
  go_wp2_with (refine wp_loadBox 28 (.tmp 1) rfl rfl (w.heap.size) rfl (cs:=[.int .i64 v0,.int .i64 v1,.int .i64 v2,.int .i64 v3,.int .i64 v4,.int .i64 v5,.int .i64 v6,.int .i64 v7,.int .i64 v8,.slice vp0 vl0 vq0,.slice vp1 vl1 vq1,.slice vp2 vl2 vq2,.int .i64 v9,.int .i64 v10,.bool vb]) T0.b1 Tryz.underlying28 size_LW rfl ?_)
  refine (szWorld_is _ d w.heap.size 1048576 _ (layWorld.rd_below HR.out T0.bel (Nat.le_refl _)) T0.bel.size (by omega)).mono ?_;rintro e w1 ⟨x,rfl,hx,b1⟩;have T1:=T0.call b1;have HT1:Hid (One w w1 #[.int .i64 v0,.int .i64 v1,.int .i64 v2,.int .i64 v3,.int .i64 v4,.int .i64 v5,.int .i64 v6,.int .i64 v7,.int .i64 v8,.slice vp0 vl0 vq0,.slice vp1 vl1 vq1,.slice vp2 vl2 vq2,.int .i64 v9,.int .i64 v10,.bool vb] 28):=T1;clear b1 T0
  rcases hx with rfl | ⟨hsz,hx⟩
  · clear T1
    go_wp2;go_ret;exact ⟨rfl,HT1.out.bel⟩
  have hx0:¬ x < 0:=by omega
  clear hx;obtain ⟨q,hq⟩:=dead_ex d;obtain ⟨N,hN⟩:∃ N,N = 1 + cvGroupsResultD q:=⟨_,rfl⟩
  have hj:1 + cvGroupsResultD q ≤ 100000000:=by have:=dead_cv hq hsz;omega
  obtain ⟨M,hM⟩:∃ M,M = 1 + cvWorldD d:=⟨_,rfl⟩
  have hk:1 + cvWorldD d ≤ 100000000:=by have:=cvWorld_le d;omega
  have CT:∀ w',Below w1.heap.size w1 w' → Calls Tryz.prog 8 #[.agg #[.int .i64 v0,.int .i64 v1,.int .i64 v2,.int .i64 v3,.int .i64 v4,.int .i64 v5,.int .i64 v6,.int .i64 v7,.int .i64 v8,.slice vp0 vl0 vq0,.slice vp1 vl1 vq1,.slice vp2 vl2 vq2,.int .i64 v9,.int .i64 v10,.bool vb]] w' fun e w'' => ∃ cs',e = .returned (.agg cs'.toArray) ∧ OwnT layWorld w'' w'.heap.size w''.heap.size d cs' ∧ Below w'.heap.size w' w'':=fun w' hb =>
    toWorld_is _ d w.heap.size w' (layWorld.rd_below (layWorld.rd_below HR.out HT1.out.bel (Nat.le_refl _)) hb HT1.out.bel.size) (Nat.le_trans HT1.out.bel.size hb.size) hsz
  have CS:=fun (cs':List Value) (hi:Nat) (w':World) (h1:layWorld.rd w' hi d cs') (h2:hi ≤ w'.heap.size) => dead_det hq (specDead_any d  cs' hi w' h1 h2 hsz);have CI:=fun (cs':List Value) (hi:Nat) (w':World) (h1:layWorld.rd w' hi d cs') (h2:hi ≤ w'.heap.size) => dead_det hq (implDead_any d  cs' hi w' h1 h2 hsz);have CE:=fun c1 c2 h1 h2 w' => eqGroupsResult_is c1 c2 q h1 h2 w';have CW:=fun c1 c2 h1 h2 w' => eqWorld_is c1 c2 d h1 h2 w';have CM:=fun {w':World} {lo hi:Nat} {cs:List Value} (h:OwnT layGroupsResult w' lo hi q cs) => mark_T markGroupsResult_is h 1 hj;have CK:=fun {w':World} {lo hi:Nat} {cs:List Value} (h:OwnT layWorld w' lo hi d cs) => mark_T markWorld_is h 1 hk;have CH:=fun (cs:List Value) (hi:Nat) (w':World) (h:layGroupsResult.rd w' hi (mkvGroupsResultD 1 q) cs) (hh:hi ≤ w'.heap.size) => heldGroupsResult_is cs q hi 1 w' h hh hj;rw [← hN] at CM CH;rw [← hM] at CK;clear hN hM hj hk hq hsz
  go_wp2_with (refine wp_loadBox 28 (.tmp 1) rfl rfl (w.heap.size) rfl (cs:=[.int .i64 v0,.int .i64 v1,.int .i64 v2,.int .i64 v3,.int .i64 v4,.int .i64 v5,.int .i64 v6,.int .i64 v7,.int .i64 v8,.slice vp0 vl0 vq0,.slice vp1 vl1 vq1,.slice vp2 vl2 vq2,.int .i64 v9,.int .i64 v10,.bool vb]) T1.b1 Tryz.underlying28 size_LW rfl ?_)
  refine (CT _ (Below.refl _ _)).mono ?_;rintro e w2 ⟨c2,rfl,o2,b2⟩;have z1:w.heap.size < w1.heap.size:=T1.b1.lt;clear T1
  go_wp2_with fail
  refine (CS _ _ _ o2.rd (Nat.le_refl _)).mono ?_;rintro e w3 ⟨cS,rfl,oS,b3⟩;obtain ⟨s0,sp,sl,sq,rfl⟩:=res2_GroupsResult oS.rd;have z2:w1.heap.size ≤ w2.heap.size:=b2.size;have z3:w2.heap.size ≤ w3.heap.size:=b3.size;have B3:Below w1.heap.size w1 w3:=b2.trans (b3.mono b2.size);clear o2 b2 b3
  go_upto_region 6 with (refine wp_allocStore 31 4 (.tmp 18) [.int .i64 s0,.slice sp sl sq] _ 2 rfl rfl rfl rfl rfl rfl rfl rfl info_GroupsResult rfl rfl oS.one ?_)
  have bA:Below w3.heap.size w3 (w3.alloc (.cells #[.int .i64 s0,.slice sp sl sq] 31)):=(Below.refl _ _).alloc (Nat.le_refl _) _;have S4:Box (w3.alloc (.cells #[.int .i64 s0,.slice sp sl sq] 31)) w3.heap.size #[.int .i64 s0,.slice sp sl sq] 31:=box_new _ _ _;obtain ⟨W4,hW4⟩:∃ x,x = w3.alloc (.cells #[.int .i64 s0,.slice sp sl sq] 31):=⟨_,rfl⟩;rw [← hW4] at bA S4 ⊢;have B4:=B3.trans (bA.mono (by omega));have P4:=HT1.out.call B4;have OS4:=oS.call bA;have z4:w3.heap.size < W4.heap.size:=S4.lt;clear bA hW4 oS B3
  go_wp2_with (refine wp_loadBox 28 (.tmp 1) rfl rfl (w.heap.size) rfl (cs:=[.int .i64 v0,.int .i64 v1,.int .i64 v2,.int .i64 v3,.int .i64 v4,.int .i64 v5,.int .i64 v6,.int .i64 v7,.int .i64 v8,.slice vp0 vl0 vq0,.slice vp1 vl1 vq1,.slice vp2 vl2 vq2,.int .i64 v9,.int .i64 v10,.bool vb]) P4.b1 Tryz.underlying28 size_LW rfl ?_)
  refine (CT _ B4).mono ?_;rintro e w5 ⟨cX,rfl,oX,b5⟩;obtain ⟨x0,x1,x2,x3,x4,x5,x6,x7,x8,xp0,xl0,xq0,xp1,xl1,xq1,xp2,xl2,xq2,x9,x10,xb,rfl⟩:=world15O oX;have z5:W4.heap.size ≤ w5.heap.size:=b5.size;have B5:=B4.trans (b5.mono (by omega));have S5:=S4.call b5;have OS5:=OS4.call b5;clear P4 b5 B4 S4 OS4
  go_upto_region 7 with (refine wp_allocStore 37 5 (.tmp 20) [.int .i64 x0,.int .i64 x1,.int .i64 x2,.int .i64 x3,.int .i64 x4,.int .i64 x5,.int .i64 x6,.int .i64 x7,.int .i64 x8,.slice xp0 xl0 xq0,.slice xp1 xl1 xq1,.slice xp2 xl2 xq2,.int .i64 x9,.int .i64 x10,.bool xb] _ 15 rfl rfl rfl rfl rfl rfl rfl rfl info_W rfl rfl oX.one ?_)
  have bA:Below w5.heap.size w5 (w5.alloc (.cells #[.int .i64 x0,.int .i64 x1,.int .i64 x2,.int .i64 x3,.int .i64 x4,.int .i64 x5,.int .i64 x6,.int .i64 x7,.int .i64 x8,.slice xp0 xl0 xq0,.slice xp1 xl1 xq1,.slice xp2 xl2 xq2,.int .i64 x9,.int .i64 x10,.bool xb] 37)):=(Below.refl _ _).alloc (Nat.le_refl _) _;have X6:Box (w5.alloc (.cells #[.int .i64 x0,.int .i64 x1,.int .i64 x2,.int .i64 x3,.int .i64 x4,.int .i64 x5,.int .i64 x6,.int .i64 x7,.int .i64 x8,.slice xp0 xl0 xq0,.slice xp1 xl1 xq1,.slice xp2 xl2 xq2,.int .i64 x9,.int .i64 x10,.bool xb] 37)) w5.heap.size #[.int .i64 x0,.int .i64 x1,.int .i64 x2,.int .i64 x3,.int .i64 x4,.int .i64 x5,.int .i64 x6,.int .i64 x7,.int .i64 x8,.slice xp0 xl0 xq0,.slice xp1 xl1 xq1,.slice xp2 xl2 xq2,.int .i64 x9,.int .i64 x10,.bool xb] 37:=box_new _ _ _;obtain ⟨W6,hW6⟩:∃ x,x = w5.alloc (.cells #[.int .i64 x0,.int .i64 x1,.int .i64 x2,.int .i64 x3,.int .i64 x4,.int .i64 x5,.int .i64 x6,.int .i64 x7,.int .i64 x8,.slice xp0 xl0 xq0,.slice xp1 xl1 xq1,.slice xp2 xl2 xq2,.int .i64 x9,.int .i64 x10,.bool xb] 37):=⟨_,rfl⟩;rw [← hW6] at bA X6 ⊢;have B6:=B5.trans (bA.mono (by omega));have S6:=S5.call bA;have OS6:=OS5.call bA;have OX6:=oX.call bA;have z6:w5.heap.size < W6.heap.size:=X6.lt;clear bA hW6 oX B5 S5 OS5
  go_wp2_with (refine wp_loadBox 37 (.tmp 5) rfl rfl (w5.heap.size) rfl (cs:=[.int .i64 x0,.int .i64 x1,.int .i64 x2,.int .i64 x3,.int .i64 x4,.int .i64 x5,.int .i64 x6,.int .i64 x7,.int .i64 x8,.slice xp0 xl0 xq0,.slice xp1 xl1 xq1,.slice xp2 xl2 xq2,.int .i64 x9,.int .i64 x10,.bool xb]) X6 Tryz.underlying37 size_W rfl ?_)
  refine (CI _ _ _ OX6.rd (by omega)).mono ?_;rintro e w7 ⟨cG,rfl,oG,b7⟩;obtain ⟨g0,gp,gl,gq,rfl⟩:=res2_GroupsResult oG.rd;have z7:W6.heap.size ≤ w7.heap.size:=b7.size;have B7:=B6.trans (b7.mono (by omega));have S7:=S6.call b7;have OS7:=OS6.call b7;have X7:=X6.call b7;have OX7:=OX6.call b7;clear b7 B6 S6 OS6 X6 OX6
  go_upto_region 8 with (refine wp_allocStore 31 6 (.tmp 22) [.int .i64 g0,.slice gp gl gq] _ 2 rfl rfl rfl rfl rfl rfl rfl rfl info_GroupsResult rfl rfl oG.one ?_)
  have bA:Below w7.heap.size w7 (w7.alloc (.cells #[.int .i64 g0,.slice gp gl gq] 31)):=(Below.refl _ _).alloc (Nat.le_refl _) _;have G8:Box (w7.alloc (.cells #[.int .i64 g0,.slice gp gl gq] 31)) w7.heap.size #[.int .i64 g0,.slice gp gl gq] 31:=box_new _ _ _;obtain ⟨W8,hW8⟩:∃ x,x = w7.alloc (.cells #[.int .i64 g0,.slice gp gl gq] 31):=⟨_,rfl⟩;rw [← hW8] at bA G8 ⊢;have B8:=B7.trans (bA.mono (by omega));have S8:=S7.call bA;have OS8:=OS7.call bA;have X8:=X7.call bA;have OX8:=OX7.call bA;have OG8:=oG.call bA;have z8:w7.heap.size < W8.heap.size:=G8.lt;clear bA hW8 oG B7 S7 OS7 X7 OX7
  go_wp2_with (first | (refine wp_loadBox 31 (.tmp 6) rfl rfl (w7.heap.size) rfl (cs:=[.int .i64 g0,.slice gp gl gq]) G8 Tryz.underlying31 size_GR rfl ?_) | (refine wp_loadBox 31 (.tmp 4) rfl rfl (w3.heap.size) rfl (cs:=[.int .i64 s0,.slice sp sl sq]) S8 Tryz.underlying31 size_GR rfl ?_))
  refine (CE _ _ _ _ _ OG8.rd OS8.rd (by omega) (by omega)).mono ?_;rintro e w9 ⟨rfl,b9⟩;have z9:W8.heap.size ≤ w9.heap.size:=b9.size;have B9:=B8.trans (b9.mono (by omega));have S9:Hid (Box w9 w3.heap.size #[.int .i64 s0,.slice sp sl sq] 31):=S8.call b9;have OS9:Hid (OwnT layGroupsResult w9 w2.heap.size w3.heap.size q [.int .i64 s0,.slice sp sl sq]):=OS8.call b9;have X9:Hid (Box w9 w5.heap.size #[.int .i64 x0,.int .i64 x1,.int .i64 x2,.int .i64 x3,.int .i64 x4,.int .i64 x5,.int .i64 x6,.int .i64 x7,.int .i64 x8,.slice xp0 xl0 xq0,.slice xp1 xl1 xq1,.slice xp2 xl2 xq2,.int .i64 x9,.int .i64 x10,.bool xb] 37):=X8.call b9;have OX9:Hid (OwnT layWorld w9 W4.heap.size w5.heap.size d [.int .i64 x0,.int .i64 x1,.int .i64 x2,.int .i64 x3,.int .i64 x4,.int .i64 x5,.int .i64 x6,.int .i64 x7,.int .i64 x8,.slice xp0 xl0 xq0,.slice xp1 xl1 xq1,.slice xp2 xl2 xq2,.int .i64 x9,.int .i64 x10,.bool xb]):=OX8.call b9;have G9:Hid (Box w9 w7.heap.size #[.int .i64 g0,.slice gp gl gq] 31):=G8.call b9;have OG9:Hid (OwnT layGroupsResult w9 W6.heap.size w7.heap.size q [.int .i64 g0,.slice gp gl gq]):=OG8.call b9;have HB9:Hid (Below w1.heap.size w1 w9):=B9;have P9:Hid (One w w9 #[.int .i64 v0,.int .i64 v1,.int .i64 v2,.int .i64 v3,.int .i64 v4,.int .i64 v5,.int .i64 v6,.int .i64 v7,.int .i64 v8,.slice vp0 vl0 vq0,.slice vp1 vl1 vq1,.slice vp2 vl2 vq2,.int .i64 v9,.int .i64 v10,.bool vb] 28):=HT1.out.call B9;have CTc:=fun w' (hb:Below w9.heap.size w9 w') => CT w' (HB9.out.trans (hb.mono (by omega)));clear b9 B8 S8 OS8 X8 OX8 G8 OG8 B9
  go_upto_region 10 with fail
  go_cut [31] (fun v wx => v = .bool false ∧ Below w9.heap.size w9 wx)
  case first =>
    have KS:∀ w',Below w9.heap.size w9 w' → (Box w' (w5.heap.size) #[.int .i64 x0,.int .i64 x1,.int .i64 x2,.int .i64 x3,.int .i64 x4,.int .i64 x5,.int .i64 x6,.int .i64 x7,.int .i64 x8,.slice xp0 xl0 xq0,.slice xp1 xl1 xq1,.slice xp2 xl2 xq2,.int .i64 x9,.int .i64 x10,.bool xb] 37 ∧ Box w' (w.heap.size) #[.int .i64 v0,.int .i64 v1,.int .i64 v2,.int .i64 v3,.int .i64 v4,.int .i64 v5,.int .i64 v6,.int .i64 v7,.int .i64 v8,.slice vp0 vl0 vq0,.slice vp1 vl1 vq1,.slice vp2 vl2 vq2,.int .i64 v9,.int .i64 v10,.bool vb] 28):=fun w' hb => ⟨(X9.out).call hb,(P9.out.b1).call hb⟩;have B0:Below w9.heap.size w9 w9.drew:=below_drew _;refine wp_region_L 4 (fun w' => Box w' (w5.heap.size) #[.int .i64 x0,.int .i64 x1,.int .i64 x2,.int .i64 x3,.int .i64 x4,.int .i64 x5,.int .i64 x6,.int .i64 x7,.int .i64 x8,.slice xp0 xl0 xq0,.slice xp1 xl1 xq1,.slice xp2 xl2 xq2,.int .i64 x9,.int .i64 x10,.bool xb] 37 ∧ Box w' (w.heap.size) #[.int .i64 v0,.int .i64 v1,.int .i64 v2,.int .i64 v3,.int .i64 v4,.int .i64 v5,.int .i64 v6,.int .i64 v7,.int .i64 v8,.slice vp0 vl0 vq0,.slice vp1 vl1 vq1,.slice vp2 vl2 vq2,.int .i64 v9,.int .i64 v10,.bool vb] 28) (by kernel_rfl) (KS _ B0) (fun hHeld => ?_);refine wpAnyL_take (i:=0) (oi:=_) (v:=.agg #[.int .i64 x0,.int .i64 x1,.int .i64 x2,.int .i64 x3,.int .i64 x4,.int .i64 x5,.int .i64 x6,.int .i64 x7,.int .i64 x8,.slice xp0 xl0 xq0,.slice xp1 xl1 xq1,.slice xp2 xl2 xq2,.int .i64 x9,.int .i64 x10,.bool xb]) 16 rfl (by kernel_rfl) (fun _ _ _ h => h) (load_yield 37 (.tmp 5) rfl rfl (w5.heap.size) rfl (cs:=[.int .i64 x0,.int .i64 x1,.int .i64 x2,.int .i64 x3,.int .i64 x4,.int .i64 x5,.int .i64 x6,.int .i64 x7,.int .i64 x8,.slice xp0 xl0 xq0,.slice xp1 xl1 xq1,.slice xp2 xl2 xq2,.int .i64 x9,.int .i64 x10,.bool xb]) (fun w' h => h.1) Tryz.underlying37 size_W rfl) (by assumption) ?_
    try simp only [Act.put,SL]
    refine wpAnyL_take (i:=1) (oi:=_) (v:=.agg #[.int .i64 v0,.int .i64 v1,.int .i64 v2,.int .i64 v3,.int .i64 v4,.int .i64 v5,.int .i64 v6,.int .i64 v7,.int .i64 v8,.slice vp0 vl0 vq0,.slice vp1 vl1 vq1,.slice vp2 vl2 vq2,.int .i64 v9,.int .i64 v10,.bool vb]) 16 rfl (by kernel_rfl) (fun _ _ _ h => h) (load_yield 28 (.tmp 1) rfl rfl (w.heap.size) rfl (cs:=[.int .i64 v0,.int .i64 v1,.int .i64 v2,.int .i64 v3,.int .i64 v4,.int .i64 v5,.int .i64 v6,.int .i64 v7,.int .i64 v8,.slice vp0 vl0 vq0,.slice vp1 vl1 vq1,.slice vp2 vl2 vq2,.int .i64 v9,.int .i64 v10,.bool vb]) (fun w' h => h.2) Tryz.underlying28 size_LW rfl) (by assumption) ?_
    try simp only [Act.put,SL]
    refine wpAnyL_one (i:=2) (o:=_) rfl (by kernel_rfl) (fun KC hKC => ?_);refine step_call rfl 8 _ _ rfl #[.agg #[.int .i64 v0,.int .i64 v1,.int .i64 v2,.int .i64 v3,.int .i64 v4,.int .i64 v5,.int .i64 v6,.int .i64 v7,.int .i64 v8,.slice vp0 vl0 vq0,.slice vp1 vl1 vq1,.slice vp2 vl2 vq2,.int .i64 v9,.int .i64 v10,.bool vb]] ?_ Tryz.func8 (by kernel_rfl) (by kernel_rfl) (CTc _ B0) ?_
    · simp [Act.eval,Act.put]
    rintro ee wb ⟨cs',rfl,oR,bb⟩;have bR:Below w9.heap.size w9 wb:=B0.trans (bb.mono B0.size);refine ⟨_,rfl,?_⟩;refine hKC.out _ _ (KS _ bR) (fun hHeld => ?_);clear hKC KC
    try simp only [Act.put,SL]
    refine wpAnyL_one (i:=3) (o:=_) rfl (by kernel_rfl) (fun KC hKC => ?_);refine step_call rfl 11 _ _ rfl #[.agg #[.int .i64 x0,.int .i64 x1,.int .i64 x2,.int .i64 x3,.int .i64 x4,.int .i64 x5,.int .i64 x6,.int .i64 x7,.int .i64 x8,.slice xp0 xl0 xq0,.slice xp1 xl1 xq1,.slice xp2 xl2 xq2,.int .i64 x9,.int .i64 x10,.bool xb],.agg cs'.toArray] ?_ Tryz.func11 (by kernel_rfl) (by kernel_rfl) (CW _ _ _ _ _ ((OX9.out).call bR).rd oR.rd (Nat.le_trans (by omega) bR.size) (Nat.le_refl _)) ?_
    · simp [Act.eval,Act.put]
    rintro ee wc' ⟨rfl,bc⟩;have bC:Below w9.heap.size w9 wc':=bR.trans (bc.mono bR.size);refine ⟨_,rfl,?_⟩;refine hKC.out _ _ (KS _ bC) (fun hHeld => ?_);clear hKC KC
    try simp only [Act.put,SL]
    refine wpAnyL_last (o:=_) rfl (by kernel_rfl) (fun KC hKC => ?_);go_simp;refine hKC.out _ _ ?_;clear hKC KC
    try simp only [Act.put,SL]
    refine wpAnyL_done (by kernel_rfl) ?_ _;go_wp2
    go_meet
    exact ⟨rfl,bC⟩
  case rest =>
    obtain ⟨rfl,b10⟩:=hcut;obtain ⟨w10,rfl⟩:∃ x,x = wc:=⟨_,rfl⟩;clear CTc;have z10:w9.heap.size ≤ w10.heap.size:=b10.size;have B10:=HB9.out.trans (b10.mono (by omega));have S10:=S9.out.call b10;have OS10:=OS9.out.call b10;have X10:=X9.out.call b10;have OX10:=OX9.out.call b10;have G10:=G9.out.call b10;have OG10:=OG9.out.call b10;clear b10 HB9 S9 OS9 X9 OX9 G9 OG9 P9
    have hm0:¬ (M:Int) < 0:=by omega
    go_wp2_with (refine wp_loadBox 37 (.tmp 5) rfl rfl (w5.heap.size) rfl (cs:=[.int .i64 x0,.int .i64 x1,.int .i64 x2,.int .i64 x3,.int .i64 x4,.int .i64 x5,.int .i64 x6,.int .i64 x7,.int .i64 x8,.slice xp0 xl0 xq0,.slice xp1 xl1 xq1,.slice xp2 xl2 xq2,.int .i64 x9,.int .i64 x10,.bool xb]) X10 Tryz.underlying37 size_W rfl ?_)
    refine (CK OX10).mono ?_;rintro e w11 ⟨rfl,OX11,c11⟩;have z11:w10.heap.size ≤ w11.heap.size:=c11.size;have B11:=B10.trans (c11.bel (B:=w1.heap.size) (by omega) (by omega));have S11:=S10.chg c11 (.inl (by omega));have OS11:=OS10.chg c11 (.inl (by omega));have G11:=G10.chg c11 (.inr (by omega));have OG11:=OG10.chg c11 (.inr (by omega));have u_0:w11.cell? ⟨w7.heap.size,0,none⟩ = some (.int .i64 g0):=G11.cell 0;have u_1:w11.cell? ⟨w7.heap.size,1,none⟩ = some (.slice gp gl gq):=G11.cell 1;have y_0:w11.cell? ⟨w3.heap.size,0,none⟩ = some (.int .i64 s0):=S11.cell 0;have y_1:w11.cell? ⟨w3.heap.size,1,none⟩ = some (.slice sp sl sq):=S11.cell 1;clear OX11 c11 B10 S10 OS10 X10 OX10 G10 OG10
    go_wp2_with fail
    refine (CE _ _ _ _ _ OG11.rd OS11.rd (by omega) (by omega)).mono ?_;rintro e w12 ⟨rfl,b12⟩;have z12:w11.heap.size ≤ w12.heap.size:=b12.size;have B12:=B11.trans (b12.mono (by omega));have S12:=S11.call b12;have OS12:=OS11.call b12;have G12:=G11.call b12;have OG12:=OG11.call b12;clear b12 B11 S11 OS11 G11 OG11 u_0 u_1 y_0 y_1
    go_wp2_with (refine wp_loadBox 31 (.tmp 6) rfl rfl (w7.heap.size) rfl (cs:=[.int .i64 g0,.slice gp gl gq]) G12 Tryz.underlying31 size_GR rfl ?_)
    refine (CM OG12).mono ?_;rintro e w13 ⟨rfl,OG13,c13⟩;have z13:w12.heap.size ≤ w13.heap.size:=c13.size;have B13:=B12.trans (c13.bel (B:=w1.heap.size) (by omega) (by omega));have S13:=S12.chg c13 (.inl (by omega));have OS13:=OS12.chg c13 (.inl (by omega));have G13:=G12.chg c13 (.inr (by omega));clear c13 B12 S12 OS12 G12 OG12
    go_wp2_with (refine wp_loadBox 31 (.tmp 6) rfl rfl (w7.heap.size) rfl (cs:=[.int .i64 g0,.slice gp gl gq]) G13 Tryz.underlying31 size_GR rfl ?_)
    refine (CH _ _ _ OG13.rd (by omega)).mono ?_;rintro e w14 ⟨rfl,b14⟩;have z14:w13.heap.size ≤ w14.heap.size:=b14.size;have B14:=B13.trans (b14.mono (by omega));have S14:=S13.call b14;have OS14:=OS13.call b14;have G14:=G13.call b14;have OG14:=OG13.call b14;have P14:=HT1.out.call B14;clear b14 B13 S13 OS13 G13 OG13
    have hn0:¬ (N:Int) < 0:=by omega
    go_wp2_with (refine wp_loadBox 28 (.tmp 1) rfl rfl (w.heap.size) rfl (cs:=[.int .i64 v0,.int .i64 v1,.int .i64 v2,.int .i64 v3,.int .i64 v4,.int .i64 v5,.int .i64 v6,.int .i64 v7,.int .i64 v8,.slice vp0 vl0 vq0,.slice vp1 vl1 vq1,.slice vp2 vl2 vq2,.int .i64 v9,.int .i64 v10,.bool vb]) P14.b1 Tryz.underlying28 size_LW rfl ?_)
    refine (CT _ B14).mono ?_;rintro e w15 ⟨c15,rfl,o15,b15⟩
    go_wp2_with fail
    refine (CI _ _ _ o15.rd (Nat.le_refl _)).mono ?_;rintro e w16 ⟨cH,rfl,oH,b16⟩;obtain ⟨h0,hp,hl,hq,rfl⟩:=res2_GroupsResult oH.rd;have z15:w14.heap.size ≤ w15.heap.size:=b15.size;have z16:w15.heap.size ≤ w16.heap.size:=b16.size;have B16:=(B14.trans (b15.mono (by omega))).trans (b16.mono (by omega));have S16:=(S14.call b15).call b16;have OS16:=(OS14.call b15).call b16;have G16:=(G14.call b15).call b16;have OG16:=(OG14.call b15).call b16;clear P14 o15 b15 b16 B14 S14 OS14 G14 OG14
    go_upto_region 25 with (refine wp_allocStore 31 10 (.tmp 56) [.int .i64 h0,.slice hp hl hq] _ 2 rfl rfl rfl rfl rfl rfl rfl rfl info_GroupsResult rfl rfl oH.one ?_)
    have bA:Below w16.heap.size w16 (w16.alloc (.cells #[.int .i64 h0,.slice hp hl hq] 31)):=(Below.refl _ _).alloc (Nat.le_refl _) _;have H17:Box (w16.alloc (.cells #[.int .i64 h0,.slice hp hl hq] 31)) w16.heap.size #[.int .i64 h0,.slice hp hl hq] 31:=box_new _ _ _;obtain ⟨W17,hW17⟩:∃ x,x = w16.alloc (.cells #[.int .i64 h0,.slice hp hl hq] 31):=⟨_,rfl⟩;rw [← hW17] at bA H17 ⊢;have B17:=B16.trans (bA.mono (by omega));have S17:=S16.call bA;have OS17:=OS16.call bA;have G17:=G16.call bA;have OG17:=OG16.call bA;have OH17:=oH.call bA;have z17:w16.heap.size < W17.heap.size:=H17.lt;clear bA hW17 oH B16 S16 OS16 G16 OG16
    go_wp2_with (first | (refine wp_loadBox 31 (.tmp 10) rfl rfl (w16.heap.size) rfl (cs:=[.int .i64 h0,.slice hp hl hq]) H17 Tryz.underlying31 size_GR rfl ?_) | (refine wp_loadBox 31 (.tmp 4) rfl rfl (w3.heap.size) rfl (cs:=[.int .i64 s0,.slice sp sl sq]) S17 Tryz.underlying31 size_GR rfl ?_))
    refine (CE _ _ _ _ _ OH17.rd OS17.rd (by omega) (by omega)).mono ?_;rintro e w18 ⟨rfl,b18⟩;have z18:W17.heap.size ≤ w18.heap.size:=b18.size;have B18:=B17.trans (b18.mono (by omega));have G18:=G17.call b18;have OG18:=OG17.call b18;clear b18 B17 S17 OS17 G17 OG17 OH17 H17
    go_wp2_with (refine wp_loadBox 31 (.tmp 6) rfl rfl (w7.heap.size) rfl (cs:=[.int .i64 g0,.slice gp gl gq]) G18 Tryz.underlying31 size_GR rfl ?_)
    refine (CH _ _ _ OG18.rd (by omega)).mono ?_;rintro e w19 ⟨rfl,b19⟩;have HB:Hid (Below w.heap.size w w19):=(HT1.out.call (B18.trans (b19.mono (by omega)))).bel;clear b19 B18 G18 OG18;go_wp2;go_ret;exact ⟨rfl,HB.out⟩
set_option maxRecDepth 100000 in
theorem fnExactDeadGroups_lifted (os:Os) (started:os.Started) (H:Type) (enc:TypeId × Value → H) :
    ReturnsInHanded {} Tryz.checked os 3 .any (Rows.fnExactDeadGroupsSpec.pre6 enc Tryz.prog Tryz.f3 Rows.fnExactDeadGroupsRow.domain false) (Rows.fnExactDeadGroupsSpec.post enc Tryz.prog Tryz.f3 false true false false):=by
  refine returnsInHanded_of_change (C:=Tryz.checked) frame_own started (by kernel_rfl) Tryz.func3
    (ChangeSpec.witness6 (enc:=enc) (C:=Tryz.checked) false ⟨#[],#[.agg #[.int .i64 0,.int .i64 0,.int .i64 0,.int .i64 0,.int .i64 0,.int .i64 0,.int .i64 0,.int .i64 0,.int .i64 0,.slice none 0 0,.slice none 0 0,.slice none 0 0,.int .i64 0,.int .i64 0,.bool false]],[]⟩ 8 (by kernel_rfl) (by kernel_rfl) (by kernel_rfl) (by kernel_rfl)) ?_
  intro W base args ds gs before hval0 hW hcnd _;have hval:∀ (j:Nat) t v,Tryz.f3.params[j]? = some t → args[j]? = some v → Value.okWide Tryz.prog W .any base t v:=hval0;have hW':=hW;obtain ⟨p,q,hA0,hV,rfl,hfz,hnd⟩:=hW;have hA:DataW.TrodAll enc Tryz.prog W 0 (fun _ => true) true Tryz.f3.params.toList args.toList ds p:=hA0;rw [Tryz.params3] at hA hval;obtain ⟨v0,vs0,d0,ds0,p0,q0,hargs,rfl,rfl,h0,r0⟩:=trodAll_cons hA;obtain ⟨rfl,rfl,rfl⟩:=trodAll_nil r0
  obtain rfl:args = #[v0]:=by cases args;simp_all
  obtain ⟨rfl,rfl⟩:=trodVars_none hV;have k0:=h0
  have lt0:∀ x ∈ p0,x.block < W.heap.size:=by obtain ⟨m,hm⟩:=k0;exact DataW.trod_lt m _ _ _ hm
  obtain ⟨cs0,a0,rfl,rd0⟩:=struct_of_trod opensWorld Tryz.underlying28 (hval 0 28 v0 rfl rfl) h0;clear hA0 hval0;refine (fnExactDeadGroups_walk a0 cs0 W rd0).mono fun e W' ⟨he,bel⟩ => ?_;subst he;exact ⟨_,rfl,_,_,_,[],_,[],hW',trodAll_mk1 (shut_bool Tryz.underlying4 _),(trodAll_cons_mk (Below.trod frame_laid (by kernel_rfl) (of_decide_eq_true (by kernel_rfl)) k0 bel lt0) trodAll_mk0),rfl,bel.frame _,fun h => by cases h⟩
end Go.Proofs.YtbjblbbbafiepaaGreat