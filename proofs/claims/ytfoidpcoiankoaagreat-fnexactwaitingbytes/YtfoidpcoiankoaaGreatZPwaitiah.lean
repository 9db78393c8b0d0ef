/- Walk of the specification's WorldFault where the form of a world has no fault; and whole. -/
import Derived.Test.YtfoidpcoiankoaaGreatZPwaitiag
import Derived.Test.YtfoidpcoiankoaaGreatZPwaitiac
import Derived.Deep.DeepCutAuto
import Derived.Test.YtfoidpcoiankoaaGreatZPwaitiad
import Derived.Test.YtfoidpcoiankoaaGreatZPwaitiaf
import Derived.Deep.RegionLaw
set_option linter.unusedVariables false
set_option linter.unusedSimpArgs false
namespace Go.Proofs.YtfoidpcoiankoaaGreat
open Go.RowKit F256
set_option maxHeartbeats 16000000 in
set_option maxRecDepth 20000 in
theorem specWorld_D (d:WorldD) (cs:List Value) (hi:Nat) (w:World) (h:layWorld.rd w hi d cs) (hhi:hi ≤ w.heap.size) (hnm:∀ t,t < d.tapes.1 → ∀ i,i < (d.tapes.2 t).recs.1 → ((d.tapes.2 t).recs.2 i).name.size ≤ 1048576) (hok':OkShape d.shape) (hsel:FormP d) :
    Calls Tryz.prog 20 #[.agg cs.toArray] w (WldPost d w):=by
  obtain ⟨ao1,cap1,ao2,cap2,ao3,cap3,rfl,g1,g2,g3,-⟩:=World_rd h;have HRD:Hid (layWorld.rd w hi d [.int .i64 (d.shape 0),.int .i64 (d.shape 1),.int .i64 (d.shape 2),.int .i64 (d.shape 3),.int .i64 (d.shape 4),.int .i64 (d.shape 5),.int .i64 (d.shape 6),.int .i64 (d.shape 7),.int .i64 (d.shape 8),.slice ao1 d.groups.1 cap1,.slice ao2 d.on.1 cap2,.slice ao3 d.tapes.1 cap3,.int .i64 d.writes,.int .i64 d.stop,.bool d.down]):=h;obtain ⟨v2,e2,⟨h2,hcp2⟩,_⟩:=g2
  cases e2
  have H2:Hid (RdI w hi (.slice ao2 d.on.1 cap2) d.on.1 d.on.2):=h2;have HCP:Hid (CapP (.slice ao2 d.on.1 cap2) d.on.1):=hcp2;have hm2:=h2.mx;obtain ⟨_,_,e3,hm3,hc3⟩:=g3
  cases e3
  unfold maxLen at hm2 hm3;have HC3:Hid (d.tapes.1 ≠ 0 → ∃ b off,ao3 = some ⟨b,off,none⟩ ∧ b < hi ∧ ∀ i,i < d.tapes.1 → ∃ ce,layTape.rd w hi (d.tapes.2 i) ce ∧ ∀ j,j < layTape.sz → w.cell? ⟨b,off + (i * layTape.sz + j),none⟩ = ce[j]?):=hc3;have HNM:Hid (∀ t,t < d.tapes.1 → ∀ i,i < (d.tapes.2 t).recs.1 → ((d.tapes.2 t).recs.2 i).name.size ≤ 1048576):=hnm;clear h h2 hcp2 hc3 g1 hnm;have T0:=one_new w #[.int .i64 (d.shape 0),.int .i64 (d.shape 1),.int .i64 (d.shape 2),.int .i64 (d.shape 3),.int .i64 (d.shape 4),.int .i64 (d.shape 5),.int .i64 (d.shape 6),.int .i64 (d.shape 7),.int .i64 (d.shape 8),.slice ao1 d.groups.1 cap1,.slice ao2 d.on.1 cap2,.slice ao3 d.tapes.1 cap3,.int .i64 d.writes,.int .i64 d.stop,.bool d.down] 37;have CSh:=fun w' => specShape_any d.shape w';unfold shapeV at CSh
  go_enter Tryz.func20,Tryz.ntmps20
  go_wp2_with fail
  refine (CSh _).mono ?_;rintro e w1 ⟨x,rfl,hx,b1⟩;have T1:One w w1 #[.int .i64 (d.shape 0),.int .i64 (d.shape 1),.int .i64 (d.shape 2),.int .i64 (d.shape 3),.int .i64 (d.shape 4),.int .i64 (d.shape 5),.int .i64 (d.shape 6),.int .i64 (d.shape 7),.int .i64 (d.shape 8),.slice ao1 d.groups.1 cap1,.slice ao2 d.on.1 cap2,.slice ao3 d.tapes.1 cap3,.int .i64 d.writes,.int .i64 d.stop,.bool d.down] 37:=T0.call b1;have HT1:Hid (One w w1 #[.int .i64 (d.shape 0),.int .i64 (d.shape 1),.int .i64 (d.shape 2),.int .i64 (d.shape 3),.int .i64 (d.shape 4),.int .i64 (d.shape 5),.int .i64 (d.shape 6),.int .i64 (d.shape 7),.int .i64 (d.shape 8),.slice ao1 d.groups.1 cap1,.slice ao2 d.on.1 cap2,.slice ao3 d.tapes.1 cap3,.int .i64 d.writes,.int .i64 d.stop,.bool d.down] 37):=T1;clear b1 T0 CSh;have x1_0:w1.cell? ⟨w.heap.size,0,none⟩ = some (.int .i64 (d.shape 0)):=T1.b1.cell 0;have kx1_0:=cell_regrown x1_0;have x1_1:w1.cell? ⟨w.heap.size,1,none⟩ = some (.int .i64 (d.shape 1)):=T1.b1.cell 1;have kx1_1:=cell_regrown x1_1;have x1_2:w1.cell? ⟨w.heap.size,2,none⟩ = some (.int .i64 (d.shape 2)):=T1.b1.cell 2;have kx1_2:=cell_regrown x1_2;have x1_3:w1.cell? ⟨w.heap.size,3,none⟩ = some (.int .i64 (d.shape 3)):=T1.b1.cell 3;have kx1_3:=cell_regrown x1_3;have x1_4:w1.cell? ⟨w.heap.size,4,none⟩ = some (.int .i64 (d.shape 4)):=T1.b1.cell 4;have kx1_4:=cell_regrown x1_4;have x1_5:w1.cell? ⟨w.heap.size,5,none⟩ = some (.int .i64 (d.shape 5)):=T1.b1.cell 5;have kx1_5:=cell_regrown x1_5;have x1_6:w1.cell? ⟨w.heap.size,6,none⟩ = some (.int .i64 (d.shape 6)):=T1.b1.cell 6;have kx1_6:=cell_regrown x1_6;have x1_7:w1.cell? ⟨w.heap.size,7,none⟩ = some (.int .i64 (d.shape 7)):=T1.b1.cell 7;have kx1_7:=cell_regrown x1_7;have x1_8:w1.cell? ⟨w.heap.size,8,none⟩ = some (.int .i64 (d.shape 8)):=T1.b1.cell 8;have kx1_8:=cell_regrown x1_8;have x1_9:w1.cell? ⟨w.heap.size,9,none⟩ = some (.slice ao1 d.groups.1 cap1):=T1.b1.cell 9;have kx1_9:=cell_regrown x1_9;have x1_10:w1.cell? ⟨w.heap.size,10,none⟩ = some (.slice ao2 d.on.1 cap2):=T1.b1.cell 10;have kx1_10:=cell_regrown x1_10;have x1_11:w1.cell? ⟨w.heap.size,11,none⟩ = some (.slice ao3 d.tapes.1 cap3):=T1.b1.cell 11;have kx1_11:=cell_regrown x1_11;have x1_12:w1.cell? ⟨w.heap.size,12,none⟩ = some (.int .i64 d.writes):=T1.b1.cell 12;have kx1_12:=cell_regrown x1_12;have x1_13:w1.cell? ⟨w.heap.size,13,none⟩ = some (.int .i64 d.stop):=T1.b1.cell 13;have kx1_13:=cell_regrown x1_13;have x1_14:w1.cell? ⟨w.heap.size,14,none⟩ = some (.bool d.down):=T1.b1.cell 14;have kx1_14:=cell_regrown x1_14;clear T1
  rcases hx with ⟨rfl,hno⟩ | ⟨rfl,hok⟩
  · go_wp2
    go_ret;exact wldP rfl (Stair.fall hno) HT1.out.bel
  have HOK:Hid (OkShape d.shape):=hok
  have hsb:1 ≤ d.shape 0 ∧ d.shape 0 ≤ 4 ∧ 0 ≤ d.shape 1 ∧ d.shape 1 ≤ 2:=by
    obtain ⟨h1,_⟩:=hok;unfold Shp3 at h1;omega
  clear hok;obtain ⟨t1,h1⟩:=exB (BuiltP d);obtain ⟨t2,h2⟩:=exB (ApartP d.on.1 d.on.2 (d.shape 0 + d.shape 1 - 1));obtain ⟨b3',h3⟩:∃ b,decide (d.shape 5 < (d.on.1:Int)) = b:=⟨_,rfl⟩;obtain ⟨g',h4⟩:∃ b,decide (0 < d.on.1) = b:=⟨_,rfl⟩;obtain ⟨b5',h5⟩:∃ b,((d.tapes.1:Int) != 2) = b:=⟨_,rfl⟩;have c1:=q_below (W:=w1) (fun w' hw' => det_b (l5Built_any d HOK.out _ hi w' (layWorld.rd_below (layWorld.rd_below HRD.out HT1.out.bel hhi) hw' (Nat.le_trans hhi HT1.out.bel.size)) (Nat.le_trans hhi (Nat.le_trans HT1.out.bel.size hw'.size))) h1);have c2:=q_below (W:=w1) (fun w' hw' => det_b (l5Apart_any _ d.on.1 d.on.2 hi (d.shape 0 + d.shape 1 - 1) w' ((H2.out.below HT1.out.bel hhi).below hw' (Nat.le_trans hhi HT1.out.bel.size)) HCP.out (Nat.le_trans hhi (Nat.le_trans HT1.out.bel.size hw'.size))) h2);have cA:=q_below (W:=w1) (fun w' _ => l5All_any d.shape HOK.out w');unfold shapeV at cA
  have wsA:IntKind.i64.wrap (d.shape 0 + d.shape 1 - 1) = d.shape 0 + d.shape 1 - 1:=by rw [IntKind.wrap_i64];omega
  have h4':decide (0 < (d.on.1:Int)) = g':=by rw [← h4];simp
  obtain ⟨dn,hdn⟩:∃ x,x = d.down:=⟨_,rfl⟩
  have HE:Hid (FormP d ↔ (t1 = true ∧ t2 = true ∧ b3' = false ∧ (dn = true → g' = false) ∧ b5' = false)):=by
    show FormP d ↔ _
    have e3:(decide (d.shape 5 < (d.on.1:Int)) = false) ↔ (d.on.1:Int) ≤ d.shape 5:=by simp
    have e4:(decide (0 < d.on.1) = false) ↔ d.on.1 = 0:=by simp
    have e5:(((d.tapes.1:Int) != 2) = false) ↔ d.tapes.1 = 2:=by simp;omega
    rw [h1,h2,← h3,← h4,← h5,hdn,e3,e4,e5];unfold FormP OnP
    constructor
    · rintro ⟨a,⟨b,c,e⟩,f⟩
      exact ⟨a,b,c,e,f⟩
    · rintro ⟨a,b,c,e,f⟩
      exact ⟨a,⟨b,c,e⟩,f⟩
  have hst:(t1 = true ∧ t2 = true ∧ b3' = false ∧ dn = true ∧ g' = false ∧ b5' = false) ∨ (t1 = true ∧ t2 = true ∧ b3' = false ∧ dn = false ∧ b5' = false):=by
    obtain ⟨a1,a2,a3,a4,a5⟩:=HE.out.1 hsel
    cases dn with
    | true => exact .inl ⟨a1,a2,a3,rfl,a4 rfl,a5⟩
    | false => exact .inr ⟨a1,a2,a3,rfl,a5⟩
  have HFM:Hid (FormP d):=hsel;have htp:d.tapes.1 = 2:=hsel.2.2;have HTP:Hid (d.tapes.1 = 2):=htp;rw [← hdn] at x1_14 kx1_14 c1;clear h1 h2 hsel hok' htp HE
  go_upto_region 4 with fail
  go_cut [51] (fun v wx => v = .bool false ∧ Below w1.heap.size w1 wx)
  case first =>
    clear hdn
    rcases hst with ⟨rfl,rfl,rfl,rfl,rfl,rfl⟩ | ⟨rfl,rfl,rfl,rfl,rfl⟩
    all_goals
      refine WQ.region (by kernel_rfl) (by kernel_rfl) ?_
      repeat (first | (apply WQ.free;(case hw => rfl);intro K hK;go_simp;first | (apply hK;clear hK K) | (apply Exists.intro;apply And.intro;(case left => intro p;(first | (go_at_call 45;exact c1 _ _) | (go_at_call 46;exact c2 _ _) | (go_at_call 47;exact cA _ _)));apply hK;clear hK K)) | (apply WQ.skip;(case hw => rfl);intro K hK;go_simp;apply hK;clear hK K) | (apply WQ.want;(case hw => rfl);intro K hK;go_simp;first | (apply hK;clear hK K) | (apply Exists.intro;apply And.intro;(case left => intro p;(first | (go_at_call 45;exact c1 _ _) | (go_at_call 46;exact c2 _ _) | (go_at_call 47;exact cA _ _)));apply hK;clear hK K)))
      refine WQ.nil ?_;intro w2 hw2;have HB2:Hid (Below w1.heap.size w1 w2):=below_rg hw2;clear hw2;go_wp2
      go_meet
      exact ⟨rfl,HB2.out⟩
  case rest =>
    obtain ⟨rfl,b2⟩:=hcut;obtain ⟨w2,rfl⟩:∃ x,x = wc:=⟨_,rfl⟩;have T2:One w w2 #[.int .i64 (d.shape 0),.int .i64 (d.shape 1),.int .i64 (d.shape 2),.int .i64 (d.shape 3),.int .i64 (d.shape 4),.int .i64 (d.shape 5),.int .i64 (d.shape 6),.int .i64 (d.shape 7),.int .i64 (d.shape 8),.slice ao1 d.groups.1 cap1,.slice ao2 d.on.1 cap2,.slice ao3 d.tapes.1 cap3,.int .i64 d.writes,.int .i64 d.stop,.bool d.down] 37:=HT1.out.call b2
    rw [hdn] at *
    clear x1_0 kx1_0 x1_1 kx1_1 x1_2 kx1_2 x1_3 kx1_3 x1_4 kx1_4 x1_5 kx1_5 x1_6 kx1_6 x1_7 kx1_7 x1_8 kx1_8 x1_9 kx1_9 x1_10 kx1_10 x1_11 kx1_11 x1_12 kx1_12 x1_13 kx1_13 x1_14 kx1_14 c1 c2 cA hst h3 h4 h4' h5 b2 HT1 wsA hdn;obtain ⟨b3,off3,he3,hb3,hel3⟩:=HC3.out (by have:=HTP.out;omega);subst he3;have HT2:Hid (One w w2 #[.int .i64 (d.shape 0),.int .i64 (d.shape 1),.int .i64 (d.shape 2),.int .i64 (d.shape 3),.int .i64 (d.shape 4),.int .i64 (d.shape 5),.int .i64 (d.shape 6),.int .i64 (d.shape 7),.int .i64 (d.shape 8),.slice ao1 d.groups.1 cap1,.slice ao2 d.on.1 cap2,.slice (some ⟨b3,off3,none⟩) d.tapes.1 cap3,.int .i64 d.writes,.int .i64 d.stop,.bool d.down] 37):=T2;have HEL:Hid (∀ i,i < d.tapes.1 → ∃ ce,layTape.rd w hi (d.tapes.2 i) ce ∧ ∀ j,j < layTape.sz → w.cell? ⟨b3,off3 + (i * layTape.sz + j),none⟩ = ce[j]?):=hel3;obtain ⟨ce0,hr0,hce0⟩:=elem_rd (t:=0) hel3 T2.bel hhi hb3 (show 0 < d.tapes.1 by have:=HTP.out;omega);obtain ⟨ce1,hr1,hce1⟩:=elem_rd (t:=0) hel3 T2.bel hhi hb3 (show 1 < d.tapes.1 by have:=HTP.out;omega);obtain ⟨ap0,cp0,rfl,gt0⟩:=Tape_rd hr0;obtain ⟨ap1,cp1,rfl,gt1⟩:=Tape_rd hr1
    have hl0:(d.tapes.2 0).recs.1 ≤ maxLen:=by obtain ⟨_,_,_,h,_⟩:=gt0;exact h
    have hl1:(d.tapes.2 1).recs.1 ≤ maxLen:=by obtain ⟨_,_,_,h,_⟩:=gt1;exact h
    unfold maxLen at hl0 hl1
    have q0:w2.cell? ⟨b3,off3 + 1,none⟩ = some (.slice ap0 (d.tapes.2 0).recs.1 cp0):=by
      have:=hce0 1 (by decide)
      simpa using this
    have q1:w2.cell? ⟨b3,off3 + 2 + 1,none⟩ = some (.slice ap1 (d.tapes.2 1).recs.1 cp1):=hce1 1 (by decide);have q1':w2.cell? ⟨b3,off3 + 3,none⟩ = some (.slice ap1 (d.tapes.2 1).recs.1 cp1):=hce1 1 (by decide);have x2_11:w2.cell? ⟨w.heap.size,11,none⟩ = some (.slice (some ⟨b3,off3,none⟩) d.tapes.1 cap3):=T2.b1.cell 11;obtain ⟨f0,k0⟩:∃ b,decide (200 < (d.tapes.2 0).recs.1) = b:=⟨_,rfl⟩;obtain ⟨f1,k1⟩:∃ b,decide (200 < (d.tapes.2 1).recs.1) = b:=⟨_,rfl⟩
    have k0':decide (200 < ((d.tapes.2 0).recs.1:Int)) = f0:=by rw [← k0];congr 1;apply propext;omega
    have k1':decide (200 < ((d.tapes.2 1).recs.1:Int)) = f1:=by rw [← k1];congr 1;apply propext;omega
    clear hce0 hce1 hr0 hr1 gt0 gt1 hel3 T2
    have hge:2 ≤ d.tapes.1:=by have:=HTP.out;omega
    have hle:d.tapes.1 ≤ 2:=by have:=HTP.out;omega
    have HF0:Hid (f0 = false → (d.tapes.2 0).recs.1 ≤ 200):=fun e => by rw [← k0] at e;simpa using e
    have HF1:Hid (f1 = false → (d.tapes.2 1).recs.1 ≤ 200):=fun e => by rw [← k1] at e;simpa using e
    have HG0:Hid (f0 = true → ¬ (d.tapes.2 0).recs.1 ≤ 200):=fun e => by rw [← k0] at e;simpa using e
    have HG1:Hid (f1 = true → ¬ (d.tapes.2 1).recs.1 ≤ 200):=fun e => by rw [← k1] at e;simpa using e
    cases f0 with
    | true =>
      go_wp2;go_ret;exact wldP rfl (Stair.pass HOK.out (Stair.pass HFM.out (Stair.fall (fun h => HG0.out (by simp) (h 0 (by omega)))))) HT2.out.bel
    | false =>
    cases f1 with
    | true =>
      go_wp2;go_ret;exact wldP rfl (Stair.pass HOK.out (Stair.pass HFM.out (Stair.fall (fun h => HG1.out (by simp) (h 1 (by omega)))))) HT2.out.bel
    | false =>
    have HFW:Hid (FewP d):=fun t ht => by
      by_cases c:t = 0
      · subst c;exact HF0.out (by simp)
      · obtain rfl:t = 1:=by omega
        exact HF1.out (by simp)
    go_wp2;clear k0 k1 k0' k1' HF0 HF1 HG0 HG1 q0 q1 q1' x2_11 hl0 hl1
    go_loopw [4] (fun v wr => ∃ t:Nat,t ≤ d.tapes.1 ∧ v = .int .i64 t ∧ (∀ u,u < t → ∀ k,k < (d.tapes.2 u).recs.1 → RecAns d.shape ((d.tapes.2 u).recs.2 k) 0) ∧ One w wr #[.int .i64 (d.shape 0),.int .i64 (d.shape 1),.int .i64 (d.shape 2),.int .i64 (d.shape 3),.int .i64 (d.shape 4),.int .i64 (d.shape 5),.int .i64 (d.shape 6),.int .i64 (d.shape 7),.int .i64 (d.shape 8),.slice ao1 d.groups.1 cap1,.slice ao2 d.on.1 cap2,.slice (some ⟨b3,off3,none⟩) d.tapes.1 cap3,.int .i64 d.writes,.int .i64 d.stop,.bool d.down] 37) (fun v _ => d.tapes.1 - (intOf v).toNat)
    case atStart => exact ⟨0,Nat.zero_le _,rfl,fun i hi => by omega,HT2.out⟩
    case round =>
      clear HT2;obtain ⟨t,ht,rfl,hal,T3⟩:=hrel;obtain ⟨wo,rfl⟩:∃ x,x = wr:=⟨_,rfl⟩;have HAL:Hid (∀ u,u < t → ∀ k,k < (d.tapes.2 u).recs.1 → RecAns d.shape ((d.tapes.2 u).recs.2 k) 0):=hal;have HT3:Hid (One w wo #[.int .i64 (d.shape 0),.int .i64 (d.shape 1),.int .i64 (d.shape 2),.int .i64 (d.shape 3),.int .i64 (d.shape 4),.int .i64 (d.shape 5),.int .i64 (d.shape 6),.int .i64 (d.shape 7),.int .i64 (d.shape 8),.slice ao1 d.groups.1 cap1,.slice ao2 d.on.1 cap2,.slice (some ⟨b3,off3,none⟩) d.tapes.1 cap3,.int .i64 d.writes,.int .i64 d.stop,.bool d.down] 37):=T3;clear hal
      by_cases hlt:t < d.tapes.1
      · have zo:w.heap.size < wo.heap.size:=T3.b1.lt
        have hd2:decide ((t:Int) < 2) = true:=decide_eq_true (by omega);clear T3;go_wp2
        go_loopw [5] (fun v wx => ∃ i:Nat,i ≤ (d.tapes.2 t).recs.1 ∧ v = .int .i64 i ∧ (∀ k,k < i → RecAns d.shape ((d.tapes.2 t).recs.2 k) 0) ∧ One w wx #[.int .i64 (d.shape 0),.int .i64 (d.shape 1),.int .i64 (d.shape 2),.int .i64 (d.shape 3),.int .i64 (d.shape 4),.int .i64 (d.shape 5),.int .i64 (d.shape 6),.int .i64 (d.shape 7),.int .i64 (d.shape 8),.slice ao1 d.groups.1 cap1,.slice ao2 d.on.1 cap2,.slice (some ⟨b3,off3,none⟩) d.tapes.1 cap3,.int .i64 d.writes,.int .i64 d.stop,.bool d.down] 37) (fun v _ => (d.tapes.2 t).recs.1 - (intOf v).toNat)
        case atStart => exact ⟨0,Nat.zero_le _,rfl,fun i hi => by omega,HT3.out⟩
        case round =>
          clear HT3;obtain ⟨i,hi',rfl,hal2,T4⟩:=hrel;obtain ⟨wx,rfl⟩:∃ x,x = wr:=⟨_,rfl⟩;have HAL2:Hid (∀ k,k < i → RecAns d.shape ((d.tapes.2 t).recs.2 k) 0):=hal2;have HT4:Hid (One w wx #[.int .i64 (d.shape 0),.int .i64 (d.shape 1),.int .i64 (d.shape 2),.int .i64 (d.shape 3),.int .i64 (d.shape 4),.int .i64 (d.shape 5),.int .i64 (d.shape 6),.int .i64 (d.shape 7),.int .i64 (d.shape 8),.slice ao1 d.groups.1 cap1,.slice ao2 d.on.1 cap2,.slice (some ⟨b3,off3,none⟩) d.tapes.1 cap3,.int .i64 d.writes,.int .i64 d.stop,.bool d.down] 37):=T4;have zx:w.heap.size < wx.heap.size:=T4.b1.lt;clear hal2;obtain ⟨ct,hrt,hct⟩:=elem_rd (t:=0) HEL.out T4.bel hhi hb3 hlt;obtain ⟨ap,cp,rfl,gt⟩:=Tape_rd hrt;have c1:wx.cell? ⟨b3,off3 + t * 2 + 1,none⟩ = some (.slice ap (d.tapes.2 t).recs.1 cp):=hct 1 (by decide);obtain ⟨_,_,et,hmt,hct'⟩:=gt
          cases et
          unfold maxLen at hmt;have HCT:Hid ((d.tapes.2 t).recs.1 ≠ 0 → ∃ b off,ap = some ⟨b,off,none⟩ ∧ b < hi ∧ ∀ i,i < (d.tapes.2 t).recs.1 → ∃ ce,layRec.rd wx hi ((d.tapes.2 t).recs.2 i) ce ∧ ∀ j,j < layRec.sz → wx.cell? ⟨b,off + (i * layRec.sz + j),none⟩ = ce[j]?):=hct';have x5_11:wx.cell? ⟨w.heap.size,11,none⟩ = some (.slice (some ⟨b3,off3,none⟩) d.tapes.1 cap3):=T4.b1.cell 11;clear hct hrt hct'
          by_cases hli:i < (d.tapes.2 t).recs.1
          · obtain ⟨b6,off6,he6,hb6,hel6⟩:=HCT.out (by omega)
            subst he6;obtain ⟨cr,hrr,hcr⟩:=hel6 i hli;obtain ⟨ro6,rc6,ro7,rc7,ro8,rc8,rfl,-⟩:=Rec_rd hrr;have r0:wx.cell? ⟨b6,off6 + i * 9,none⟩ = some (.int .i64 ((d.tapes.2 t).recs.2 i).kind):=hcr 0 (by decide);have kr0:=cell_regrown r0;have r1:wx.cell? ⟨b6,off6 + i * 9 + 1,none⟩ = some (.int .i64 ((d.tapes.2 t).recs.2 i).seq):=hcr 1 (by decide);have kr1:=cell_regrown r1;have r2:wx.cell? ⟨b6,off6 + i * 9 + 2,none⟩ = some (.string ((d.tapes.2 t).recs.2 i).name):=hcr 2 (by decide);have kr2:=cell_regrown r2;have r3:wx.cell? ⟨b6,off6 + i * 9 + 3,none⟩ = some (.int .i64 ((d.tapes.2 t).recs.2 i).length):=hcr 3 (by decide);have kr3:=cell_regrown r3;have r4:wx.cell? ⟨b6,off6 + i * 9 + 4,none⟩ = some (.int .i64 ((d.tapes.2 t).recs.2 i).group):=hcr 4 (by decide);have kr4:=cell_regrown r4;have r5:wx.cell? ⟨b6,off6 + i * 9 + 5,none⟩ = some (.int .i64 ((d.tapes.2 t).recs.2 i).row):=hcr 5 (by decide);have kr5:=cell_regrown r5;have r6:wx.cell? ⟨b6,off6 + i * 9 + 6,none⟩ = some (.slice ro6 ((d.tapes.2 t).recs.2 i).rows.1 rc6):=hcr 6 (by decide);have kr6:=cell_regrown r6;have r7:wx.cell? ⟨b6,off6 + i * 9 + 7,none⟩ = some (.slice ro7 ((d.tapes.2 t).recs.2 i).data.1 rc7):=hcr 7 (by decide);have kr7:=cell_regrown r7;have r8:wx.cell? ⟨b6,off6 + i * 9 + 8,none⟩ = some (.slice ro8 ((d.tapes.2 t).recs.2 i).delta.1 rc8):=hcr 8 (by decide);have kr8:=cell_regrown r8;have HRR:Hid (layRec.rd wx hi ((d.tapes.2 t).recs.2 i) [.int .i64 ((d.tapes.2 t).recs.2 i).kind,.int .i64 ((d.tapes.2 t).recs.2 i).seq,.string ((d.tapes.2 t).recs.2 i).name,.int .i64 ((d.tapes.2 t).recs.2 i).length,.int .i64 ((d.tapes.2 t).recs.2 i).group,.int .i64 ((d.tapes.2 t).recs.2 i).row,.slice ro6 ((d.tapes.2 t).recs.2 i).rows.1 rc6,.slice ro7 ((d.tapes.2 t).recs.2 i).data.1 rc7,.slice ro8 ((d.tapes.2 t).recs.2 i).delta.1 rc8]):=hrr;obtain ⟨X,hX⟩:∃ X,RecAns d.shape ((d.tapes.2 t).recs.2 i) X:=stair_ex (K:=isZ) ⟨0,rfl⟩ _;have HX:Hid (RecAns d.shape ((d.tapes.2 t).recs.2 i) X):=hX;have kx5_11:=cell_regrown x5_11;have kc1:=cell_regrown c1;have x5_0:wx.cell? ⟨w.heap.size,0,none⟩ = some (.int .i64 (d.shape 0)):=T4.b1.cell 0;have kx5_0:=cell_regrown x5_0;have x5_1:wx.cell? ⟨w.heap.size,1,none⟩ = some (.int .i64 (d.shape 1)):=T4.b1.cell 1;have kx5_1:=cell_regrown x5_1;have x5_2:wx.cell? ⟨w.heap.size,2,none⟩ = some (.int .i64 (d.shape 2)):=T4.b1.cell 2;have kx5_2:=cell_regrown x5_2;have x5_3:wx.cell? ⟨w.heap.size,3,none⟩ = some (.int .i64 (d.shape 3)):=T4.b1.cell 3;have kx5_3:=cell_regrown x5_3;have x5_4:wx.cell? ⟨w.heap.size,4,none⟩ = some (.int .i64 (d.shape 4)):=T4.b1.cell 4;have kx5_4:=cell_regrown x5_4;have x5_5:wx.cell? ⟨w.heap.size,5,none⟩ = some (.int .i64 (d.shape 5)):=T4.b1.cell 5;have kx5_5:=cell_regrown x5_5;have x5_6:wx.cell? ⟨w.heap.size,6,none⟩ = some (.int .i64 (d.shape 6)):=T4.b1.cell 6;have kx5_6:=cell_regrown x5_6;have x5_7:wx.cell? ⟨w.heap.size,7,none⟩ = some (.int .i64 (d.shape 7)):=T4.b1.cell 7
            have kx5_7:=cell_regrown x5_7;have x5_8:wx.cell? ⟨w.heap.size,8,none⟩ = some (.int .i64 (d.shape 8)):=T4.b1.cell 8;have kx5_8:=cell_regrown x5_8;have CR:=q_below (W:=wx) (fun w' hw' => rec_det HX.out (specRec_any d.shape ((d.tapes.2 t).recs.2 i) _ hi w' (layRec.rd_below HRR.out hw' (by omega)) (Nat.le_trans (by omega) hw'.size) (HNM.out t hlt i hli)));unfold shapeV at CR;clear hel6 hcr hrr T4 hX
            go_upto_region 14 with fail
            refine WQ.region (by kernel_rfl) (by kernel_rfl) ?_
            repeat (first | (apply WQ.skip;(case hw => rfl);intro K hK;go_simp;apply hK;clear hK K) | (apply WQ.want;(case hw => rfl);intro K hK;go_simp;first | (apply hK;clear hK K) | (apply Exists.intro;apply And.intro;(case left => intro p;(first | (go_at_call 48;exact CR _ _)));apply hK;clear hK K)))
            refine WQ.nil ?_;intro w6 hw6;have HT6:Hid (One w w6 #[.int .i64 (d.shape 0),.int .i64 (d.shape 1),.int .i64 (d.shape 2),.int .i64 (d.shape 3),.int .i64 (d.shape 4),.int .i64 (d.shape 5),.int .i64 (d.shape 6),.int .i64 (d.shape 7),.int .i64 (d.shape 8),.slice ao1 d.groups.1 cap1,.slice ao2 d.on.1 cap2,.slice (some ⟨b3,off3,none⟩) d.tapes.1 cap3,.int .i64 d.writes,.int .i64 d.stop,.bool d.down] 37):=HT4.out.call (below_rg hw6);clear hw6 CR r0 kr0 x5_0 kx5_0 r1 kr1 x5_1 kx5_1 r2 kr2 x5_2 kx5_2 r3 kr3 x5_3 kx5_3 r4 kr4 x5_4 kx5_4 r5 kr5 x5_5 kx5_5 r6 kr6 x5_6 kx5_6 r7 kr7 x5_7 kx5_7 r8 kr8 x5_8 kx5_8 x5_11 kx5_11 c1 kc1
            by_cases hx0:X = 0
            · subst hx0
              go_wp2
              go_roundw
              case rel => exact ⟨i + 1,by omega,by go_num,fun k hk => by
                            by_cases c:k = i
                            · subst c;exact HX.out
                            · exact HAL2.out k (by omega),HT6.out⟩
              case measure => simp [intOf];omega
            · have hne:(X != 0) = true:=by simp [hx0]
              go_wp2;go_ret;exact wldP rfl (Stair.pass HOK.out (Stair.pass HFM.out (Stair.pass HFW.out (Stair.last (.inl ⟨hx0,.inr ⟨hx0,t,i,hlt,hli,HX.out,HAL2.out,HAL.out⟩⟩))))) HT6.out.bel
          · obtain rfl:i = (d.tapes.2 t).recs.1:=by omega
            clear T4;go_wp2
            go_roundw
            case rel => exact ⟨t + 1,by omega,by go_num,fun u hu => by
                          by_cases c:u = t
                          · subst c;exact HAL2.out
                          · exact HAL.out u (by omega),HT4.out⟩
            case measure => simp [intOf];omega
      · obtain rfl:t = d.tapes.1:=by omega
        clear T3;have HRA:Hid (RecsAns d.shape d.tapes.1 d.tapes.2 0):=.inl ⟨rfl,HAL.out⟩;go_wp2
        go_loop [7] (fun v => ∃ t:Nat,t ≤ d.tapes.1 ∧ v = .int .i64 t ∧ ∀ u,u < t → (d.tapes.2 u).wiped = true → (d.tapes.2 u).recs.1 = 0) (fun v => d.tapes.1 - (intOf v).toNat)
        case atStart => exact ⟨0,Nat.zero_le _,rfl,fun i hi => by omega⟩
        case round =>
          obtain ⟨t,ht,rfl,hal⟩:=hrel;have HAL3:Hid (∀ u,u < t → (d.tapes.2 u).wiped = true → (d.tapes.2 u).recs.1 = 0):=hal;clear hal
          by_cases hlt:t < d.tapes.1
          · obtain ⟨ct,hrt,hct⟩:=elem_rd (t:=0) HEL.out HT3.out.bel hhi hb3 hlt
            obtain ⟨ap,cp,rfl,gt⟩:=Tape_rd hrt;have c0:wo.cell? ⟨b3,off3 + t * 2,none⟩ = some (.bool (d.tapes.2 t).wiped):=hct 0 (by decide);have c1:wo.cell? ⟨b3,off3 + t * 2 + 1,none⟩ = some (.slice ap (d.tapes.2 t).recs.1 cp):=hct 1 (by decide);have x5_11:wo.cell? ⟨w.heap.size,11,none⟩ = some (.slice (some ⟨b3,off3,none⟩) d.tapes.1 cap3):=HT3.out.b1.cell 11;obtain ⟨u,hu⟩:∃ u,u = (d.tapes.2 t).wiped:=⟨_,rfl⟩;obtain ⟨g,hg⟩:∃ b,decide (0 < (d.tapes.2 t).recs.1) = b:=⟨_,rfl⟩
            have hg':decide (0 < ((d.tapes.2 t).recs.1:Int)) = g:=by rw [← hg];simp
            rw [← hu] at c0
            have HE3:Hid (((d.tapes.2 t).wiped = true → (d.tapes.2 t).recs.1 = 0) ↔ (u = true → g = false)):=by
              show _ ↔ _
              rw [← hu,← hg]
              simp
            clear hct hrt gt hu
            cases u with
            | false =>
              go_wp2
              go_round
              case rel => exact ⟨t + 1,by omega,by go_num,fun u hu => by
                            by_cases c:u = t
                            · subst c;exact HE3.out.2 (by simp)
                            · exact HAL3.out u (by omega)⟩
              case measure => simp [intOf];omega
            | true =>
              cases g with
              | false =>
                go_wp2
                go_round
                case rel => exact ⟨t + 1,by omega,by go_num,fun u hu => by
                              by_cases c:u = t
                              · subst c;exact HE3.out.2 (by simp)
                              · exact HAL3.out u (by omega)⟩
                case measure => simp [intOf];omega
              | true =>
                go_wp2;go_ret;exact wldP rfl (Stair.pass HOK.out (Stair.pass HFM.out (Stair.pass HFW.out (Stair.last (.inr ⟨HRA.out,Stair.fall (fun h => by have:=HE3.out.1 (h t hlt);simp at this)⟩))))) HT3.out.bel
          · obtain rfl:t = d.tapes.1:=by omega
            have HCL:Hid (CleanP d):=HAL3.out;have x5_12:wo.cell? ⟨w.heap.size,12,none⟩ = some (.int .i64 d.writes):=HT3.out.b1.cell 12;have x5_13:wo.cell? ⟨w.heap.size,13,none⟩ = some (.int .i64 d.stop):=HT3.out.b1.cell 13;obtain ⟨t1,h1⟩:=exB (InP d.writes 0 1000000000);obtain ⟨t2,h2⟩:=exB (InP d.stop (-1) 1000000000);have C1:=fun w' => l1In_b (w:=w') h1;have C2:=fun w' => l1In_b (w:=w') h2
            have HE4:Hid (CountP d ↔ (t1 = true ∧ t2 = true)):=by
              show CountP d ↔ _
              rw [h1,h2];exact Iff.rfl
            clear h1 h2
            go_wp2_with fail
            refine (C1 _).mono ?_;rintro e w' ⟨rfl,hw'⟩;obtain rfl:=hw'.symm;clear C1
            cases t1 with
            | false =>
              go_wp2;go_ret;exact wldP rfl (Stair.pass HOK.out (Stair.pass HFM.out (Stair.pass HFW.out (Stair.last (.inr ⟨HRA.out,Stair.pass HCL.out (Stair.fall (fun h => by have:=HE4.out.1 h;simp at this))⟩))))) HT3.out.bel
            | true =>
              go_wp2_with fail
              refine (C2 _).mono ?_;rintro e w' ⟨rfl,hw'⟩;obtain rfl:=hw'.symm;clear C2
              cases t2 with
              | false =>
                go_wp2;go_ret;exact wldP rfl (Stair.pass HOK.out (Stair.pass HFM.out (Stair.pass HFW.out (Stair.last (.inr ⟨HRA.out,Stair.pass HCL.out (Stair.fall (fun h => by have:=HE4.out.1 h;simp at this))⟩))))) HT3.out.bel
              | true =>
                go_wp2;go_ret;exact wldP rfl (Stair.pass HOK.out (Stair.pass HFM.out (Stair.pass HFW.out (Stair.last (.inr ⟨HRA.out,Stair.pass HCL.out (Stair.pass (HE4.out.2 (by simp)) (Stair.last rfl))⟩))))) HT3.out.bel
set_option maxHeartbeats 16000000 in
set_option maxRecDepth 20000 in
theorem specWorld_E (d:WorldD) (cs:List Value) (hi:Nat) (w:World) (h:layWorld.rd w hi d cs) (hhi:hi ≤ w.heap.size) (hnm:∀ t,t < d.tapes.1 → ∀ i,i < (d.tapes.2 t).recs.1 → ((d.tapes.2 t).recs.2 i).name.size ≤ 1048576) (hok':¬ OkShape d.shape) :
    Calls Tryz.prog 20 #[.agg cs.toArray] w (WldPost d w):=by
  obtain ⟨ao1,cap1,ao2,cap2,ao3,cap3,rfl,g1,g2,g3,-⟩:=World_rd h;have HRD:Hid (layWorld.rd w hi d [.int .i64 (d.shape 0),.int .i64 (d.shape 1),.int .i64 (d.shape 2),.int .i64 (d.shape 3),.int .i64 (d.shape 4),.int .i64 (d.shape 5),.int .i64 (d.shape 6),.int .i64 (d.shape 7),.int .i64 (d.shape 8),.slice ao1 d.groups.1 cap1,.slice ao2 d.on.1 cap2,.slice ao3 d.tapes.1 cap3,.int .i64 d.writes,.int .i64 d.stop,.bool d.down]):=h;obtain ⟨v2,e2,⟨h2,hcp2⟩,_⟩:=g2
  cases e2
  have H2:Hid (RdI w hi (.slice ao2 d.on.1 cap2) d.on.1 d.on.2):=h2;have HCP:Hid (CapP (.slice ao2 d.on.1 cap2) d.on.1):=hcp2;have hm2:=h2.mx;obtain ⟨_,_,e3,hm3,hc3⟩:=g3
  cases e3
  unfold maxLen at hm2 hm3;have HC3:Hid (d.tapes.1 ≠ 0 → ∃ b off,ao3 = some ⟨b,off,none⟩ ∧ b < hi ∧ ∀ i,i < d.tapes.1 → ∃ ce,layTape.rd w hi (d.tapes.2 i) ce ∧ ∀ j,j < layTape.sz → w.cell? ⟨b,off + (i * layTape.sz + j),none⟩ = ce[j]?):=hc3;have HNM:Hid (∀ t,t < d.tapes.1 → ∀ i,i < (d.tapes.2 t).recs.1 → ((d.tapes.2 t).recs.2 i).name.size ≤ 1048576):=hnm;clear h h2 hcp2 hc3 g1 hnm;have T0:=one_new w #[.int .i64 (d.shape 0),.int .i64 (d.shape 1),.int .i64 (d.shape 2),.int .i64 (d.shape 3),.int .i64 (d.shape 4),.int .i64 (d.shape 5),.int .i64 (d.shape 6),.int .i64 (d.shape 7),.int .i64 (d.shape 8),.slice ao1 d.groups.1 cap1,.slice ao2 d.on.1 cap2,.slice ao3 d.tapes.1 cap3,.int .i64 d.writes,.int .i64 d.stop,.bool d.down] 37;have CSh:=fun w' => specShape_any d.shape w';unfold shapeV at CSh
  go_enter Tryz.func20,Tryz.ntmps20
  go_wp2_with fail
  refine (CSh _).mono ?_;rintro e w1 ⟨x,rfl,hx,b1⟩;have T1:One w w1 #[.int .i64 (d.shape 0),.int .i64 (d.shape 1),.int .i64 (d.shape 2),.int .i64 (d.shape 3),.int .i64 (d.shape 4),.int .i64 (d.shape 5),.int .i64 (d.shape 6),.int .i64 (d.shape 7),.int .i64 (d.shape 8),.slice ao1 d.groups.1 cap1,.slice ao2 d.on.1 cap2,.slice ao3 d.tapes.1 cap3,.int .i64 d.writes,.int .i64 d.stop,.bool d.down] 37:=T0.call b1;have HT1:Hid (One w w1 #[.int .i64 (d.shape 0),.int .i64 (d.shape 1),.int .i64 (d.shape 2),.int .i64 (d.shape 3),.int .i64 (d.shape 4),.int .i64 (d.shape 5),.int .i64 (d.shape 6),.int .i64 (d.shape 7),.int .i64 (d.shape 8),.slice ao1 d.groups.1 cap1,.slice ao2 d.on.1 cap2,.slice ao3 d.tapes.1 cap3,.int .i64 d.writes,.int .i64 d.stop,.bool d.down] 37):=T1;clear b1 T0 CSh;have x1_0:w1.cell? ⟨w.heap.size,0,none⟩ = some (.int .i64 (d.shape 0)):=T1.b1.cell 0;have kx1_0:=cell_regrown x1_0;have x1_1:w1.cell? ⟨w.heap.size,1,none⟩ = some (.int .i64 (d.shape 1)):=T1.b1.cell 1;have kx1_1:=cell_regrown x1_1;have x1_2:w1.cell? ⟨w.heap.size,2,none⟩ = some (.int .i64 (d.shape 2)):=T1.b1.cell 2;have kx1_2:=cell_regrown x1_2;have x1_3:w1.cell? ⟨w.heap.size,3,none⟩ = some (.int .i64 (d.shape 3)):=T1.b1.cell 3;have kx1_3:=cell_regrown x1_3;have x1_4:w1.cell? ⟨w.heap.size,4,none⟩ = some (.int .i64 (d.shape 4)):=T1.b1.cell 4;have kx1_4:=cell_regrown x1_4;have x1_5:w1.cell? ⟨w.heap.size,5,none⟩ = some (.int .i64 (d.shape 5)):=T1.b1.cell 5;have kx1_5:=cell_regrown x1_5;have x1_6:w1.cell? ⟨w.heap.size,6,none⟩ = some (.int .i64 (d.shape 6)):=T1.b1.cell 6;have kx1_6:=cell_regrown x1_6;have x1_7:w1.cell? ⟨w.heap.size,7,none⟩ = some (.int .i64 (d.shape 7)):=T1.b1.cell 7;have kx1_7:=cell_regrown x1_7;have x1_8:w1.cell? ⟨w.heap.size,8,none⟩ = some (.int .i64 (d.shape 8)):=T1.b1.cell 8;have kx1_8:=cell_regrown x1_8;have x1_9:w1.cell? ⟨w.heap.size,9,none⟩ = some (.slice ao1 d.groups.1 cap1):=T1.b1.cell 9;have kx1_9:=cell_regrown x1_9;have x1_10:w1.cell? ⟨w.heap.size,10,none⟩ = some (.slice ao2 d.on.1 cap2):=T1.b1.cell 10;have kx1_10:=cell_regrown x1_10;have x1_11:w1.cell? ⟨w.heap.size,11,none⟩ = some (.slice ao3 d.tapes.1 cap3):=T1.b1.cell 11;have kx1_11:=cell_regrown x1_11;have x1_12:w1.cell? ⟨w.heap.size,12,none⟩ = some (.int .i64 d.writes):=T1.b1.cell 12;have kx1_12:=cell_regrown x1_12;have x1_13:w1.cell? ⟨w.heap.size,13,none⟩ = some (.int .i64 d.stop):=T1.b1.cell 13;have kx1_13:=cell_regrown x1_13;have x1_14:w1.cell? ⟨w.heap.size,14,none⟩ = some (.bool d.down):=T1.b1.cell 14;have kx1_14:=cell_regrown x1_14;clear T1
  rcases hx with ⟨rfl,hno⟩ | ⟨rfl,hok⟩
  · go_wp2
    go_ret;exact wldP rfl (Stair.fall hno) HT1.out.bel
  exact absurd hok hok'
theorem specWorld_any (d:WorldD) (cs:List Value) (hi:Nat) (w:World) (h:layWorld.rd w hi d cs) (hhi:hi ≤ w.heap.size) (hnm:∀ t,t < d.tapes.1 → ∀ i,i < (d.tapes.2 t).recs.1 → ((d.tapes.2 t).recs.2 i).name.size ≤ 1048576) :
    Calls Tryz.prog 20 #[.agg cs.toArray] w (WldPost d w):=by
  by_cases h0:OkShape d.shape
  · by_cases h1:BuiltP d ∧ ApartP d.on.1 d.on.2 (d.shape 0 + d.shape 1 - 1)
    · by_cases h2:(d.on.1:Int) ≤ d.shape 5 ∧ (d.down = true → d.on.1 = 0)
      · by_cases h3:d.tapes.1 = 2
        · exact specWorld_D d cs hi w h hhi hnm h0 ⟨h1.1,⟨h1.2,h2.1,h2.2⟩,h3⟩
        · exact specWorld_C d cs hi w h hhi hnm h0 ⟨h1.1,h1.2,h2,h3⟩
      · exact specWorld_B d cs hi w h hhi hnm h0 ⟨h1.1,h1.2,h2⟩
    · exact specWorld_A d cs hi w h hhi hnm h0 h1
  · exact specWorld_E d cs hi w h hhi hnm h0
end Go.Proofs.YtfoidpcoiankoaaGreat
namespace Go.Proofs.YtfoidpcoiankoaaGreat
open Go.RowKit F256
end Go.Proofs.YtfoidpcoiankoaaGreat
namespace Go.Proofs.YtfoidpcoiankoaaGreat
open Go.RowKit F256
theorem world15 {w:World} {hi:Nat} {d:WorldD} {cs:List Value} (h:layWorld.rd w hi d cs):∃ v0 v1 v2 v3 v4 v5 v6 v7 v8 vp0 vl0 vq0 vp1 vl1 vq1 vp2 vl2 vq2 v9 v10 vb,cs = [.int .i64 v0,.int .i64 v1,.int .i64 v2,.int .i64 v3,.int .i64 v4,.int .i64 v5,.int .i64 v6,.int .i64 v7,.int .i64 v8,.slice vp0 vl0 vq0,.slice vp1 vl1 vq1,.slice vp2 vl2 vq2,.int .i64 v9,.int .i64 v10,.bool vb]:=by
  obtain ⟨p1,pc1,p2,pc2,p3,pc3,rfl,-⟩:=World_rd h;exact ⟨_,_,_,_,_,_,_,_,_,_,_,_,_,_,_,_,_,_,_,_,_,rfl⟩
theorem world15O {w:World} {lo hi:Nat} {d:WorldD} {cs:List Value} (h:OwnT layWorld w lo hi d cs):∃ v0 v1 v2 v3 v4 v5 v6 v7 v8 vp0 vl0 vq0 vp1 vl1 vq1 vp2 vl2 vq2 v9 v10 vb,cs = [.int .i64 v0,.int .i64 v1,.int .i64 v2,.int .i64 v3,.int .i64 v4,.int .i64 v5,.int .i64 v6,.int .i64 v7,.int .i64 v8,.slice vp0 vl0 vq0,.slice vp1 vl1 vq1,.slice vp2 vl2 vq2,.int .i64 v9,.int .i64 v10,.bool vb]:=world15 h.rd
theorem wld_ok_names {d:WorldD} (h:szWorldD d ≤ 1048576):∀ t,t < d.tapes.1 → ∀ i,i < (d.tapes.2 t).recs.1 → ((d.tapes.2 t).recs.2 i).name.size ≤ 1048576:=fun t ht i hi => by
  have h1:szSl szTapeD d.tapes ≤ 1048576:=by unfold szWorldD at h;omega
  have h2:szSl szRecD (d.tapes.2 t).recs ≤ 1048576:=szSl_at h1 ht;have h3:szRecD ((d.tapes.2 t).recs.2 i) ≤ 1048576:=szSl_at h2 hi;unfold szRecD at h3;omega
end Go.Proofs.YtfoidpcoiankoaaGreat
namespace Go.Proofs.YtfoidpcoiankoaaGreat
open Go.RowKit F256
end Go.Proofs.YtfoidpcoiankoaaGreat
namespace Go.Proofs.YtfoidpcoiankoaaGreat
open Go.RowKit F256
open Go.Maps (Keyed)
theorem Ldg.keepAll {w w':World} {lo B:Nat} {s:Nat → Int} {m k:Nat} {x:Nat → RecD} {ce:Nat → List Value} {v:Value} {b1 b2 b3 b4 b5:Nat} (h:Ldg w lo B s m k x ce v b1 b2 b3 b4 b5) (hb:∀ b,b < w.heap.size → w'.heap[b]? = w.heap[b]?):Ldg w' lo B s m k x ce v b1 b2 b3 b4 b5:=by
  refine ⟨(hb B h.box.lt).trans h.box,⟨h.row.1,?_⟩,h.m1.block (hb _ h.m1.lt),h.m2.block (hb _ h.m2.lt),h.m3.block (hb _ h.m3.lt),h.m4.block (hb _ h.m4.lt),h.m5.block (hb _ h.m5.lt),h.nd,h.low,h.apart⟩
  rcases h.row.2 with hn | ⟨g,cap,cur,rfl,q1,q2,q3⟩
  · exact .inl hn
  · exact .inr ⟨g,cap,cur,rfl,q1,(hb g (Array.getElem?_eq_some_iff.1 q2).1).trans q2,q3⟩
set_option maxHeartbeats 4000000 in
theorem entryOf_kd (kd:Int) (r:RecD) (ao6 ao7 ao8:Option Addr) (cap6 cap7 cap8:Nat) (w:World) :
    Calls Tryz.prog 64 #[.agg #[.int .i64 kd,.int .i64 r.seq,.string r.name,.int .i64 r.length,.int .i64 r.group,.int .i64 r.row,.slice ao6 r.rows.1 cap6,.slice ao7 r.data.1 cap7,.slice ao8 r.delta.1 cap8]] w fun e w' => e = .returned (entV kd [.int .i64 kd,.int .i64 r.seq,.string r.name,.int .i64 r.length,.int .i64 r.group,.int .i64 r.row,.slice ao6 r.rows.1 cap6,.slice ao7 r.data.1 cap7,.slice ao8 r.delta.1 cap8]) ∧ Below w.heap.size w w':=by
  have T0:=(one_new w #[.int .i64 kd,.int .i64 r.seq,.string r.name,.int .i64 r.length,.int .i64 r.group,.int .i64 r.row,.slice ao6 r.rows.1 cap6,.slice ao7 r.data.1 cap7,.slice ao8 r.delta.1 cap8] 66).bel;unfold entV entT
  by_cases h1:kd = 1
  · subst h1
    go_enter Tryz.func64,Tryz.ntmps64
    go_wp2;go_ret;exact ⟨rfl,T0⟩
  · rw [if_neg h1]
    by_cases h2:kd = 2
    · subst h2
      go_enter Tryz.func64,Tryz.ntmps64
      go_wp2;go_ret;exact ⟨rfl,T0⟩
    · rw [if_neg h2]
      by_cases h3:kd = 3
      · subst h3
        go_enter Tryz.func64,Tryz.ntmps64
        go_wp2;go_ret;exact ⟨rfl,T0⟩
      · rw [if_neg h3]
        go_enter Tryz.func64,Tryz.ntmps64
        go_wp2;go_ret;exact ⟨rfl,T0⟩
theorem enter_any {w w0:World} {lo B hi:Nat} {s:Nat → Int} {k:Nat} {x:Nat → RecD} {ce:Nat → List Value} {v:Value} {b1 b2 b3 b4 b5:Nat} (h:Ldg w lo B s k k x ce v b1 b2 b3 b4 b5) (hk:k ≤ 1000000) (hlo:lo ≤ w.heap.size) (hr:layRec.rd w0 hi (x k) (ce k)) (hkd:InP (x k).kind 1 4) :
    Calls Tryz.prog 63 #[.pointer (some ⟨B,0,none⟩),entV (x k).kind (ce k)] w fun e w' => e = .returned (.tuple #[]) ∧ (∃ v',Ldg w' lo B s (k + 1) (k + 1) x ce v' b1 b2 b3 b4 b5 ∧ EntQ w w' v v' [B,b1,b2,b3,b4,b5]) ∧ Below lo w w':=by
  obtain ⟨ao6,cap6,ao7,cap7,ao8,cap8,e,_,_,_,k0,k1,k2,k3,k4,k5⟩:=Rec_rd hr;obtain ⟨q1,q2⟩:=hkd
  have hc:(x k).kind = 1 ∨ (x k).kind = 2 ∨ (x k).kind = 3 ∨ (x k).kind = 4:=by omega
  rcases hc with c | c | c | c
  · have:=enter_item h hk hlo rfl e c k2 k1 k4 k5
    rw [show entV (x k).kind (ce k) = .iface 118 (.agg #[.int .i64 (x k).kind,.int .i64 (x k).seq,.string (x k).name,.int .i64 (x k).length,.int .i64 (x k).group,.int .i64 (x k).row,.slice ao6 (x k).rows.1 cap6,.slice ao7 (x k).data.1 cap7,.slice ao8 (x k).delta.1 cap8]) by unfold entV entT;rw [e];simp [c]];exact this
  · have:=enter_move h hk hlo rfl e c k2 k1 k4 k5
    rw [show entV (x k).kind (ce k) = .iface 147 (.agg #[.int .i64 (x k).kind,.int .i64 (x k).seq,.string (x k).name,.int .i64 (x k).length,.int .i64 (x k).group,.int .i64 (x k).row,.slice ao6 (x k).rows.1 cap6,.slice ao7 (x k).data.1 cap7,.slice ao8 (x k).delta.1 cap8]) by unfold entV entT;rw [e];simp [c]];exact this
  · have:=enter_done h hk hlo rfl e c k2 k1 k4 k5
    rw [show entV (x k).kind (ce k) = .iface 148 (.agg #[.int .i64 (x k).kind,.int .i64 (x k).seq,.string (x k).name,.int .i64 (x k).length,.int .i64 (x k).group,.int .i64 (x k).row,.slice ao6 (x k).rows.1 cap6,.slice ao7 (x k).data.1 cap7,.slice ao8 (x k).delta.1 cap8]) by unfold entV entT;rw [e];simp [c]];exact this
  · have:=enter_share h hk hlo rfl e c k2 k1 k4 k5
    rw [show entV (x k).kind (ce k) = .iface 151 (.agg #[.int .i64 (x k).kind,.int .i64 (x k).seq,.string (x k).name,.int .i64 (x k).length,.int .i64 (x k).group,.int .i64 (x k).row,.slice ao6 (x k).rows.1 cap6,.slice ao7 (x k).data.1 cap7,.slice ao8 (x k).delta.1 cap8]) by unfold entV entT;rw [e];simp [c]];exact this
theorem MapV.alloc {w:World} {k:TypeId} {b n:Nat} {f:Value → Option Value} (h:MapV w k b n f) (q:Obj):MapV (w.alloc q) k b n f:=h.block (Below.heap_alloc w q b h.lt)
theorem cntF_zero (p:Nat → Prop) (key:Nat → Value):cntF p key 0 = fun _ => none:=by
  funext y
  simp [cntF,cN]
theorem ldg_start (u:World) (s:Nat → Int) (x:Nat → RecD) (ce:Nat → List Value) :
    Ldg ((((((u.alloc (.map #[] 0)).alloc (.map #[] 0)).alloc (.map #[] 0)).alloc (.map #[] 0)).alloc (.map #[] 0)).alloc (.cells #[.int .i64 (s 0),.int .i64 (s 1),.int .i64 (s 2),.int .i64 (s 3),.int .i64 (s 4),.int .i64 (s 5),.int .i64 (s 6),.int .i64 (s 7),.int .i64 (s 8),.slice none 0 0,.map (some u.heap.size),.map (some (u.heap.size + 1)),.map (some (u.heap.size + 1 + 1)),.map (some (u.heap.size + 1 + 1 + 1)),.map (some (u.heap.size + 1 + 1 + 1 + 1))] 104)) u.heap.size (u.heap.size + 1 + 1 + 1 + 1 + 1) s 0 0 x ce (.slice none 0 0) (u.heap.size) (u.heap.size + 1) (u.heap.size + 1 + 1) (u.heap.size + 1 + 1 + 1) (u.heap.size + 1 + 1 + 1 + 1):=by
  have a1:(u.alloc (.map #[] 0)).heap.size = u.heap.size + 1:=by simp
  have a2:((u.alloc (.map #[] 0)).alloc (.map #[] 0)).heap.size = u.heap.size + 1 + 1:=by simp
  have a3:(((u.alloc (.map #[] 0)).alloc (.map #[] 0)).alloc (.map #[] 0)).heap.size = u.heap.size + 1 + 1 + 1:=by simp
  have a4:((((u.alloc (.map #[] 0)).alloc (.map #[] 0)).alloc (.map #[] 0)).alloc (.map #[] 0)).heap.size = u.heap.size + 1 + 1 + 1 + 1:=by simp
  have a5:(((((u.alloc (.map #[] 0)).alloc (.map #[] 0)).alloc (.map #[] 0)).alloc (.map #[] 0)).alloc (.map #[] 0)).heap.size = u.heap.size + 1 + 1 + 1 + 1 + 1:=by simp
  have m1:=mapV_made u 9;have m2:=mapV_made (u.alloc (.map #[] 0)) 2;have m3:=mapV_made ((u.alloc (.map #[] 0)).alloc (.map #[] 0)) 150;have m4:=mapV_made (((u.alloc (.map #[] 0)).alloc (.map #[] 0)).alloc (.map #[] 0)) 2;have m5:=mapV_made ((((u.alloc (.map #[] 0)).alloc (.map #[] 0)).alloc (.map #[] 0)).alloc (.map #[] 0)) 153;have X:=box_new (((((u.alloc (.map #[] 0)).alloc (.map #[] 0)).alloc (.map #[] 0)).alloc (.map #[] 0)).alloc (.map #[] 0)) #[.int .i64 (s 0),.int .i64 (s 1),.int .i64 (s 2),.int .i64 (s 3),.int .i64 (s 4),.int .i64 (s 5),.int .i64 (s 6),.int .i64 (s 7),.int .i64 (s 8),.slice none 0 0,.map (some u.heap.size),.map (some (u.heap.size + 1)),.map (some (u.heap.size + 1 + 1)),.map (some (u.heap.size + 1 + 1 + 1)),.map (some (u.heap.size + 1 + 1 + 1 + 1))] 104;rw [a1] at m2;rw [a2] at m3;rw [a3] at m4;rw [a4] at m5;rw [a5] at X;refine ⟨X,World.ownsRow_nil _ _ _ _,(((((m1.alloc _).alloc _).alloc _).alloc _).alloc _),?_,?_,?_,(m5.alloc _),by simp <;> omega,by omega,fun g hg => by cases hg⟩
  · rw [show movF x 0 = fun _ => none from cntF_zero _ _]
    exact (((m2.alloc _).alloc _).alloc _).alloc _
  · rw [show donF x 0 = fun _ => none from cntF_zero _ _]
    exact ((m3.alloc _).alloc _).alloc _
  · rw [show endF x 0 = fun _ => none from cntF_zero _ _]
    exact (m4.alloc _).alloc _
theorem recT_ok {d:WorldD} (hok:OkWorld d) {i:Nat} (hi:i < lenT d.tapes.2 2):InP (recT d.tapes.2 2 i).kind 1 4:=by
  have h2:d.tapes.1 = 2:=hok.form.2.2
  have key:∀ t j,t < 2 → j < (d.tapes.2 t).recs.1 → InP ((d.tapes.2 t).recs.2 j).kind 1 4:=fun t j ht hj => by
    have:=hok.recs t (by omega) j hj
    rcases this with ⟨_,h⟩ | ⟨_,h⟩
    · omega
    rcases h with ⟨_,h⟩ | ⟨h,_⟩
    · omega
    exact h
  have e1:lenT d.tapes.2 1 = (d.tapes.2 0).recs.1:=by simp [lenT]
  have e2:lenT d.tapes.2 2 = (d.tapes.2 0).recs.1 + (d.tapes.2 1).recs.1:=by simp [lenT]
  rw [e2] at hi
  show InP (cat2 (recT d.tapes.2 1) (lenT d.tapes.2 1) (d.tapes.2 1).recs.2 i).kind 1 4
  unfold cat2
  split
  · rename_i c
    rw [e1] at c
    show InP (cat2 (recT d.tapes.2 0) (lenT d.tapes.2 0) (d.tapes.2 0).recs.2 i).kind 1 4
    unfold cat2;rw [if_neg (by show ¬ i < 0;omega)];exact key 0 (i - 0) (by omega) (by omega)
  · rename_i c
    rw [e1] at c ⊢;exact key 1 _ (by omega) (by omega)
def TapesP (d:WorldD) (hi:Nat) (w:World) (e:Ending) (w':World):Prop :=
  ∃ B l ce v b1 b2 b3 b4 b5,e = .returned (.pointer (some ⟨B,0,none⟩)) ∧ Cnt (recT d.tapes.2 2) (lenT d.tapes.2 2) l ∧ Ldg w' (w.heap.size + 1) B d.shape l.length l.length (fun i => recT d.tapes.2 2 (l.getD i 0)) ce v b1 b2 b3 b4 b5 ∧ (∀ i,i < l.length → layRec.rd w' hi (recT d.tapes.2 2 (l.getD i 0)) (ce i)) ∧ Below w.heap.size w w'
set_option maxHeartbeats 16000000 in
set_option maxRecDepth 20000 in
theorem readTapes_any (d:WorldD) (cs:List Value) (hi:Nat) (w:World) (h:layWorld.rd w hi d cs) (hhi:hi ≤ w.heap.size) (hok:OkWorld d) :
    Calls Tryz.prog 28 #[.agg cs.toArray] w (TapesP d hi w):=by
  have h':=h;obtain ⟨ao1,cap1,ao2,cap2,ao3,cap3,rfl,g1,g2,g3,k0,k4,k5⟩:=World_rd h';have HG3:Hid ((layTape.slice 87).rd w hi d.tapes [.slice ao3 d.tapes.1 cap3]):=g3;have HOK:Hid (OkWorld d):=hok;clear h h' g1 g2 g3 k0 k4 k5 hok;have T0:=one_new w #[.int .i64 (d.shape 0),.int .i64 (d.shape 1),.int .i64 (d.shape 2),.int .i64 (d.shape 3),.int .i64 (d.shape 4),.int .i64 (d.shape 5),.int .i64 (d.shape 6),.int .i64 (d.shape 7),.int .i64 (d.shape 8),.slice ao1 d.groups.1 cap1,.slice ao2 d.on.1 cap2,.slice ao3 d.tapes.1 cap3,.int .i64 d.writes,.int .i64 d.stop,.bool d.down] 37;have hmm:=@run_makeMap Tryz.prog
  go_enter Tryz.func28,Tryz.ntmps28
  go_upto_region 2 with fail
  have L0:=ldg_start (w.alloc (.cells #[.int .i64 (d.shape 0),.int .i64 (d.shape 1),.int .i64 (d.shape 2),.int .i64 (d.shape 3),.int .i64 (d.shape 4),.int .i64 (d.shape 5),.int .i64 (d.shape 6),.int .i64 (d.shape 7),.int .i64 (d.shape 8),.slice ao1 d.groups.1 cap1,.slice ao2 d.on.1 cap2,.slice ao3 d.tapes.1 cap3,.int .i64 d.writes,.int .i64 d.stop,.bool d.down] 37)) d.shape
  have zA:(w.alloc (.cells #[.int .i64 (d.shape 0),.int .i64 (d.shape 1),.int .i64 (d.shape 2),.int .i64 (d.shape 3),.int .i64 (d.shape 4),.int .i64 (d.shape 5),.int .i64 (d.shape 6),.int .i64 (d.shape 7),.int .i64 (d.shape 8),.slice ao1 d.groups.1 cap1,.slice ao2 d.on.1 cap2,.slice ao3 d.tapes.1 cap3,.int .i64 d.writes,.int .i64 d.stop,.bool d.down] 37)).heap.size = w.heap.size + 1:=by simp
  rw [zA] at L0;have bW:Below w.heap.size w (((((((w.alloc (.cells #[.int .i64 (d.shape 0),.int .i64 (d.shape 1),.int .i64 (d.shape 2),.int .i64 (d.shape 3),.int .i64 (d.shape 4),.int .i64 (d.shape 5),.int .i64 (d.shape 6),.int .i64 (d.shape 7),.int .i64 (d.shape 8),.slice ao1 d.groups.1 cap1,.slice ao2 d.on.1 cap2,.slice ao3 d.tapes.1 cap3,.int .i64 d.writes,.int .i64 d.stop,.bool d.down] 37)).alloc (.map #[] 0)).alloc (.map #[] 0)).alloc (.map #[] 0)).alloc (.map #[] 0)).alloc (.map #[] 0)).alloc (.cells #[.int .i64 (d.shape 0),.int .i64 (d.shape 1),.int .i64 (d.shape 2),.int .i64 (d.shape 3),.int .i64 (d.shape 4),.int .i64 (d.shape 5),.int .i64 (d.shape 6),.int .i64 (d.shape 7),.int .i64 (d.shape 8),.slice none 0 0,.map (some (w.heap.size + 1)),.map (some (w.heap.size + 1 + 1)),.map (some (w.heap.size + 1 + 1 + 1)),.map (some (w.heap.size + 1 + 1 + 1 + 1)),.map (some (w.heap.size + 1 + 1 + 1 + 1 + 1))] 104)):=((((((T0.bel.alloc (by simp) _).alloc (by simp <;> omega) _).alloc (by simp <;> omega) _).alloc (by simp <;> omega) _).alloc (by simp <;> omega) _).alloc (by simp <;> omega) _);have XW:Box (((((((w.alloc (.cells #[.int .i64 (d.shape 0),.int .i64 (d.shape 1),.int .i64 (d.shape 2),.int .i64 (d.shape 3),.int .i64 (d.shape 4),.int .i64 (d.shape 5),.int .i64 (d.shape 6),.int .i64 (d.shape 7),.int .i64 (d.shape 8),.slice ao1 d.groups.1 cap1,.slice ao2 d.on.1 cap2,.slice ao3 d.tapes.1 cap3,.int .i64 d.writes,.int .i64 d.stop,.bool d.down] 37)).alloc (.map #[] 0)).alloc (.map #[] 0)).alloc (.map #[] 0)).alloc (.map #[] 0)).alloc (.map #[] 0)).alloc (.cells #[.int .i64 (d.shape 0),.int .i64 (d.shape 1),.int .i64 (d.shape 2),.int .i64 (d.shape 3),.int .i64 (d.shape 4),.int .i64 (d.shape 5),.int .i64 (d.shape 6),.int .i64 (d.shape 7),.int .i64 (d.shape 8),.slice none 0 0,.map (some (w.heap.size + 1)),.map (some (w.heap.size + 1 + 1)),.map (some (w.heap.size + 1 + 1 + 1)),.map (some (w.heap.size + 1 + 1 + 1 + 1)),.map (some (w.heap.size + 1 + 1 + 1 + 1 + 1))] 104)) w.heap.size #[.int .i64 (d.shape 0),.int .i64 (d.shape 1),.int .i64 (d.shape 2),.int .i64 (d.shape 3),.int .i64 (d.shape 4),.int .i64 (d.shape 5),.int .i64 (d.shape 6),.int .i64 (d.shape 7),.int .i64 (d.shape 8),.slice ao1 d.groups.1 cap1,.slice ao2 d.on.1 cap2,.slice ao3 d.tapes.1 cap3,.int .i64 d.writes,.int .i64 d.stop,.bool d.down] 37:=((((((T0.b1.allocd _).allocd _).allocd _).allocd _).allocd _).allocd _);obtain ⟨W1,hW1⟩:∃ y,y = (((((((w.alloc (.cells #[.int .i64 (d.shape 0),.int .i64 (d.shape 1),.int .i64 (d.shape 2),.int .i64 (d.shape 3),.int .i64 (d.shape 4),.int .i64 (d.shape 5),.int .i64 (d.shape 6),.int .i64 (d.shape 7),.int .i64 (d.shape 8),.slice ao1 d.groups.1 cap1,.slice ao2 d.on.1 cap2,.slice ao3 d.tapes.1 cap3,.int .i64 d.writes,.int .i64 d.stop,.bool d.down] 37)).alloc (.map #[] 0)).alloc (.map #[] 0)).alloc (.map #[] 0)).alloc (.map #[] 0)).alloc (.map #[] 0)).alloc (.cells #[.int .i64 (d.shape 0),.int .i64 (d.shape 1),.int .i64 (d.shape 2),.int .i64 (d.shape 3),.int .i64 (d.shape 4),.int .i64 (d.shape 5),.int .i64 (d.shape 6),.int .i64 (d.shape 7),.int .i64 (d.shape 8),.slice none 0 0,.map (some (w.heap.size + 1)),.map (some (w.heap.size + 1 + 1)),.map (some (w.heap.size + 1 + 1 + 1)),.map (some (w.heap.size + 1 + 1 + 1 + 1)),.map (some (w.heap.size + 1 + 1 + 1 + 1 + 1))] 104)):=⟨_,rfl⟩
  rw [← hW1] at bW XW ⊢
  have HL0:Hid (∀ x ce,Ldg W1 (w.heap.size + 1) (w.heap.size + 1 + 1 + 1 + 1 + 1 + 1) d.shape 0 0 x ce (.slice none 0 0) (w.heap.size + 1) (w.heap.size + 1 + 1) (w.heap.size + 1 + 1 + 1) (w.heap.size + 1 + 1 + 1 + 1) (w.heap.size + 1 + 1 + 1 + 1 + 1)):=fun x ce => by rw [hW1];exact L0 x ce
  have z1:w.heap.size + 7 ≤ W1.heap.size:=by rw [hW1];simp
  clear hW1 L0 zA hmm;have h2:d.tapes.1 = 2:=HOK.out.form.2.2;have hn0:(d.tapes.2 0).recs.1 ≤ 400000:=Nat.le_trans (HOK.out.few 0 (by omega)) (by decide);have hn1:(d.tapes.2 1).recs.1 ≤ 400000:=Nat.le_trans (HOK.out.few 1 (by omega)) (by decide)
  have x11:W1.cell? ⟨w.heap.size,11,none⟩ = some (.slice ao3 2 cap3):=by have:=XW.cell 11;rw [h2] at this;exact this
  have G3:(layTape.slice 87).rd W1 hi (2,d.tapes.2) [.slice ao3 2 cap3]:=by
    have:=Lay.rd_below _ HG3.out bW hhi;rw [h2] at this;rw [show d.tapes = (2,d.tapes.2) from Prod.ext h2 rfl] at this;exact this
  have CC:=countOnce_any d.tapes.2 (.slice ao3 2 cap3) hi W1 G3 (by have:=bW.size;omega) hn0 hn1;have HBW:Hid (Below w.heap.size w W1):=bW;clear G3 bW T0 XW
  go_wp2_with fail
  refine CC.mono ?_;rintro e w2 ⟨v2,l,ce,lo,rfl,hCt,hlo,V,b2⟩;have HCt:Hid (Cnt (recT d.tapes.2 2) (lenT d.tapes.2 2) l):=hCt
  have hNl:l.length ≤ 800000:=by
    have e2:lenT d.tapes.2 2 = (d.tapes.2 0).recs.1 + (d.tapes.2 1).recs.1:=by simp [lenT]
    have:=(hCt.sum (fun _ => 0)).2;omega
  obtain ⟨x,hx⟩:∃ x:Nat → RecD,x = fun i => recT d.tapes.2 2 (l.getD i 0):=⟨_,rfl⟩;have HX:Hid (x = fun i => recT d.tapes.2 2 (l.getD i 0)):=hx
  have HKD:Hid (∀ i,i < l.length → InP (x i).kind 1 4):=fun i hi' => by
    rw [hx];exact recT_ok HOK.out ((hCt.mem _).1 (by rw [getD_at hi'];exact List.getElem_mem hi')).1
  rw [← hx] at V;obtain ⟨N,hN⟩:∃ N,N = l.length:=⟨_,rfl⟩;have HN:Hid (N = l.length):=hN;rw [← hN] at V HKD hNl;have HRD:Hid (∀ i,i < N → layRec.rd w2 hi (x i) (ce i)):=fun i hi' => V.each i hi';obtain ⟨a2,c2,rfl⟩:=V.form;have L2:Ldg w2 (w.heap.size + 1) (w.heap.size + 1 + 1 + 1 + 1 + 1 + 1) d.shape 0 0 x ce (.slice none 0 0) (w.heap.size + 1) (w.heap.size + 1 + 1) (w.heap.size + 1 + 1 + 1) (w.heap.size + 1 + 1 + 1 + 1) (w.heap.size + 1 + 1 + 1 + 1 + 1):=(HL0.out x ce).keepAll (fun b hb => b2.block b hb);have HB2:Hid (Below w.heap.size w w2):=HBW.out.trans (b2.mono (by omega));have z2:W1.heap.size ≤ w2.heap.size:=b2.size
  have AP:∀ g,(Value.slice a2 N c2).ownBlock = some g → w.heap.size + 7 ≤ g:=fun g hg => by
    rcases V.row.2 with ⟨q,_⟩ | ⟨g',cap',cur,q,q1,_⟩
    · cases q
      cases hg
    · cases q
      cases hg
      show w.heap.size + 7 ≤ g'
      omega
  have HV:Hid (View layRec 66 w2 lo hi (.slice a2 N c2) N x ce):=V
  have HAP:Hid (∀ g,(Value.slice a2 N c2).ownBlock = some g → w.heap.size + 7 ≤ g ∧ g < w2.heap.size):=fun g hg => ⟨AP g hg,by
    rcases V.row.2 with ⟨q,_⟩ | ⟨g',cap',cur,q,q1,q2,_⟩
    · cases q
      cases hg
    · cases q
      cases hg
      exact (Array.getElem?_eq_some_iff.1 q2).1⟩
  clear V AP CC b2 hCt hx hN x11 hn0 hn1 h2 hlo;go_wp2
  go_loopw [19] (fun i wr => ∃ (k:Nat) (v:Value),k ≤ N ∧ i = .int .i64 k ∧ Ldg wr (w.heap.size + 1) (w.heap.size + 1 + 1 + 1 + 1 + 1 + 1) d.shape k k x ce v (w.heap.size + 1) (w.heap.size + 1 + 1) (w.heap.size + 1 + 1 + 1) (w.heap.size + 1 + 1 + 1 + 1) (w.heap.size + 1 + 1 + 1 + 1 + 1) ∧ (∀ g,(Value.slice a2 N c2).ownBlock = some g → v.ownBlock ≠ some g ∧ wr.heap[g]? = w2.heap[g]?) ∧ Below (w.heap.size + 1) w2 wr) (fun i _ => N - (intOf i).toNat)
  case atStart => exact ⟨0,_,Nat.zero_le _,rfl,L2,fun g hg => ⟨(fun e => by cases e),rfl⟩,Below.refl _ _⟩
  case round =>
    clear L2;obtain ⟨k,v,hk,rfl,hL,hA,hb⟩:=hrel;have zr:w2.heap.size ≤ wr.heap.size:=hb.size
    by_cases hlt:k < N
    · have HL:Hid (Ldg wr (w.heap.size + 1) (w.heap.size + 1 + 1 + 1 + 1 + 1 + 1) d.shape k k x ce v (w.heap.size + 1) (w.heap.size + 1 + 1) (w.heap.size + 1 + 1 + 1) (w.heap.size + 1 + 1 + 1 + 1) (w.heap.size + 1 + 1 + 1 + 1 + 1)):=hL
      have HA:Hid (∀ g,(Value.slice a2 N c2).ownBlock = some g → v.ownBlock ≠ some g ∧ wr.heap[g]? = w2.heap[g]?):=hA;have HBr:Hid (Below (w.heap.size + 1) w2 wr):=hb;have Vr:View layRec 66 wr lo hi (.slice a2 N c2) N x ce:=HV.out.kept (fun b hb' => (hA b hb').2) (hb.mono (by omega));obtain ⟨g,cg,hgg⟩:=Vr.form0 (by omega)
      have hga:a2 = some ⟨g,0,none⟩:=by cases hgg;rfl
      have hcg:c2 = cg:=by cases hgg;rfl
      subst hga;subst hcg;have hrk:=HRD.out k hlt;obtain ⟨ao6,cap6,ao7,cap7,ao8,cap8,ec,-⟩:=Rec_rd hrk;have HRK:Hid (layRec.rd w2 hi (x k) (ce k)):=hrk;have HEC:Hid (ce k = [.int .i64 (x k).kind,.int .i64 (x k).seq,.string (x k).name,.int .i64 (x k).length,.int .i64 (x k).group,.int .i64 (x k).row,.slice ao6 (x k).rows.1 cap6,.slice ao7 (x k).data.1 cap7,.slice ao8 (x k).delta.1 cap8]):=ec
      have hcell:∀ j,j < 9 → wr.cell? ⟨g,k * 9 + j,none⟩ = ([.int .i64 (x k).kind,.int .i64 (x k).seq,.string (x k).name,.int .i64 (x k).length,.int .i64 (x k).group,.int .i64 (x k).row,.slice ao6 (x k).rows.1 cap6,.slice ao7 (x k).data.1 cap7,.slice ao8 (x k).delta.1 cap8]:List Value)[j]?:=fun j hj => by rw [← ec];exact Vr.cell hlt hj
      obtain ⟨r,hr⟩:∃ r,r = x k:=⟨_,rfl⟩;rw [← hr] at hcell;have HR:Hid (r = x k):=hr
      have t1:(k:Int) < (N:Int):=by omega
      have y0:wr.cell? ⟨g,k * 9,none⟩ = some (.int .i64 r.kind):=hcell 0 (by decide);have y1:wr.cell? ⟨g,k * 9 + 1,none⟩ = some (.int .i64 r.seq):=hcell 1 (by decide);have y2:wr.cell? ⟨g,k * 9 + 2,none⟩ = some (.string r.name):=hcell 2 (by decide);have y3:wr.cell? ⟨g,k * 9 + 3,none⟩ = some (.int .i64 r.length):=hcell 3 (by decide);have y4:wr.cell? ⟨g,k * 9 + 4,none⟩ = some (.int .i64 r.group):=hcell 4 (by decide);have y5:wr.cell? ⟨g,k * 9 + 5,none⟩ = some (.int .i64 r.row):=hcell 5 (by decide);have y6:wr.cell? ⟨g,k * 9 + 6,none⟩ = some (.slice ao6 r.rows.1 cap6):=hcell 6 (by decide);have y7:wr.cell? ⟨g,k * 9 + 7,none⟩ = some (.slice ao7 r.data.1 cap7):=hcell 7 (by decide);have y8:wr.cell? ⟨g,k * 9 + 8,none⟩ = some (.slice ao8 r.delta.1 cap8):=hcell 8 (by decide)
      have hkN:k ≤ 1000000:=by omega
      clear hL hA hb Vr hrk ec hcell hr
      go_wp2_with fail
      refine (entryOf_kd r.kind r ao6 ao7 ao8 cap6 cap7 cap8 _).mono ?_;rintro e w3 ⟨rfl,b3⟩;have b3':Below wr.heap.size wr w3:=((Below.refl wr.heap.size wr).alloc (Nat.le_refl _) _).trans (b3.mono (by simp));have L3:=HL.out.keepAll (fun b hb' => b3'.block b hb');have z3:wr.heap.size ≤ w3.heap.size:=b3'.size;have CE:=enter_any L3 hkN (by omega) HRK.out (HKD.out k hlt);rw [HEC.out,← HR.out] at CE;have HB3:Hid (Below wr.heap.size wr w3):=b3';clear b3 b3' L3
      go_wp2_with fail
      refine CE.mono ?_;rintro e w4 ⟨rfl,⟨v',L4,q1,q2⟩,b4⟩;have HL4:Hid (Ldg w4 (w.heap.size + 1) (w.heap.size + 1 + 1 + 1 + 1 + 1 + 1) d.shape (k + 1) (k + 1) x ce v' (w.heap.size + 1) (w.heap.size + 1 + 1) (w.heap.size + 1 + 1 + 1) (w.heap.size + 1 + 1 + 1 + 1) (w.heap.size + 1 + 1 + 1 + 1 + 1)):=L4;have HB4:Hid (Below (w.heap.size + 1) w2 w4):=(HBr.out.trans (HB3.out.mono (by omega))).trans b4
      have HA4:Hid (∀ g',(Value.slice (some ⟨g,0,none⟩) N c2).ownBlock = some g' → v'.ownBlock ≠ some g' ∧ w4.heap[g']? = w2.heap[g']?):=fun g' hg' => by
        obtain ⟨p1,p2⟩:=HA.out g' hg';obtain ⟨p3,p4⟩:=HAP.out g' hg';refine ⟨?_,?_⟩
        · rcases q1 with e | ⟨g9,e1,e2⟩
          · rw [e];exact p1
          · rw [e2]
            intro e3
            cases e3
            omega
        · rw [q2 g' (by omega) (by simp;omega) p1,HB3.out.block g' (by omega)]
          exact p2
      clear L4 q1 q2 b4 CE y0 y1 y2 y3 y4 y5 y6 y7 y8;go_wp2
      go_roundw
      case rel => exact ⟨k + 1,v',by omega,by go_num,HL4.out,HA4.out,HB4.out⟩
      case measure => simp [intOf];omega
    · obtain rfl:k = N:=by omega
      have hL':=hL;rw [HN.out,HX.out] at hL';have HL:Hid (Ldg wr (w.heap.size + 1) (w.heap.size + 1 + 1 + 1 + 1 + 1 + 1) d.shape l.length l.length (fun i => recT d.tapes.2 2 (l.getD i 0)) ce v (w.heap.size + 1) (w.heap.size + 1 + 1) (w.heap.size + 1 + 1 + 1) (w.heap.size + 1 + 1 + 1 + 1) (w.heap.size + 1 + 1 + 1 + 1 + 1)):=hL'
      have HRr:Hid (∀ i,i < l.length → layRec.rd wr hi (recT d.tapes.2 2 (l.getD i 0)) (ce i)):=fun i hi' => by
        have:=HRD.out i (by rw [HN.out];exact hi');rw [HX.out] at this;exact layRec.rd_below this (hb.mono (Nat.le_trans hhi (Nat.le_succ _))) (Nat.le_refl _)
      have HBr:Hid (Below w.heap.size w wr):=HB2.out.trans (hb.mono (Nat.le_succ _));clear hL hL' hA hb;go_wp2;go_ret;exact ⟨_,l,ce,v,_,_,_,_,_,rfl,HCt.out,HL.out,HRr.out,HBr.out⟩
end Go.Proofs.YtfoidpcoiankoaaGreat
namespace Go.Proofs.YtfoidpcoiankoaaGreat
open Go.RowKit F256
theorem wp_build1R {ops:Array Oper} {rest:List Oper} {o:Oper} {a:Act} {W:World} {Q:Exit → Act → World → Prop} (hg:o.guard = none) (x:Operand) (hop:o.op = Op.buildSlice 54 1 #[(0,x)]) {w0:World} {hi0:Nat} {r:RecD} {cs:List Value} (hr:layRec.rd w0 hi0 r cs) (hx:a.eval x = .agg cs.toArray)
    (h:wpList Tryz.prog ops Q rest (a.put o.dst (.slice (some ⟨W.heap.size,0,none⟩) 1 1)) (W.alloc (.cells cs.toArray 66))):wpList Tryz.prog ops Q (o :: rest) a W:=by
  refine wpList_plain hg fun K hK' => ?_;have:=step_build1R (ops:=ops) (K:=K) (Q:=Q) (F:=True) hg x hop hr hx (hK' _ _ h);rw [if_pos (by simp [Region.wanted,hg])] at this;exact this
end Go.Proofs.YtfoidpcoiankoaaGreat
namespace Go.Proofs.YtfoidpcoiankoaaGreat
open Go.RowKit Go.Maps Go.Sort F256
theorem size_le {w:World} {b n:Nat} {D:DataW Value} (h:w.ownsMap Tryz.prog 9 heldR b n D):Maps.size D ≤ n:=by
  obtain ⟨es,clock,_,_,h1,rfl⟩:=h;rw [Maps.size_eq];refine Nat.le_trans ?_ h1;have:=(WideShapes.sorted_perm (es.toList.map (WideElems.rg Tryz.prog 9 heldR))).length_eq;rw [this]
  simp
theorem ownsRow_low {w:World} {base base' size n:Nat} {e:TypeId} {v:Value} {xs:List Value} (h:w.ownsRow base e size v n xs) (hb:base' ≤ base):w.ownsRow base' e size v n xs :=
  ⟨h.1,h.2.elim Or.inl (fun ⟨g,cap,cur,hv,hg,r⟩ => Or.inr ⟨g,cap,cur,hv,Nat.le_trans hb hg,r⟩)⟩
theorem take_snoc {β:Type} (l:List β) {k:Nat} (h:k < l.length):l.take (k + 1) = l.take k ++ [l[k]]:=by rw [List.take_add_one,List.getElem?_eq_getElem h];rfl
theorem getD_snoc_lt {l:List Nat} {a i:Nat} (h:i < l.length):(l ++ [a]).getD i 0 = l.getD i 0:=by
  rw [List.getD_eq_getElem?_getD,List.getD_eq_getElem?_getD,List.getElem?_append_left h]
theorem getD_snoc_at {l:List Nat} {a:Nat}:(l ++ [a]).getD l.length 0 = a:=by
  rw [List.getD_eq_getElem?_getD,List.getElem?_append_right (Nat.le_refl _)]
  simp
set_option maxHeartbeats 16000000 in
set_option maxRecDepth 20000 in
theorem items_any {w:World} {lo B hi:Nat} {s:Nat → Int} {m N:Nat} {x:Nat → RecD} {ce:Nat → List Value} {v:Value} {b1 b2 b3 b4 b5:Nat} (h:Ldg w lo B s m N x ce v b1 b2 b3 b4 b5) (hN:N ≤ 1000000) (hhi:hi ≤ w.heap.size) (hr:∀ i,i < N → layRec.rd w hi (x i) (ce i)) (hk:∀ i,i < N → (x i).kind = 1 → ((x i).length < 0 ↔ (x i).length = -1)) :
    Calls Tryz.prog 29 #[.pointer (some ⟨B,0,none⟩)] w fun e w' => ∃ u cu l,e = .returned u ∧ Live x N l ∧ View layRec 66 w' w.heap.size hi u l.length (fun i => x (l.getD i 0)) cu ∧ Below w.heap.size w w':=by
  have HL:Hid (Ldg w lo B s m N x ce v b1 b2 b3 b4 b5):=h;have HR:Hid (∀ i,i < N → layRec.rd w hi (x i) (ce i)):=hr;have HK:Hid (∀ i,i < N → (x i).kind = 1 → ((x i).length < 0 ↔ (x i).length = -1)):=hk;obtain ⟨D,hown,hf⟩:=h.m1;have hsz:=size_le hown;have d4:w.cell? ⟨B,10,none⟩ = some (.map (some b1)):=h.box.cell 10
  have HF:Hid (∀ ss:List (List UInt8),ss.Perm (strKeys D) → Names x N (ss.mergeSort (fun x y => decide (x ≤ y)))):=fun ss hS => names_ok hown hf (fun i hi' => by
    obtain ⟨ao6,cap6,ao7,cap7,ao8,cap8,-,-,-,-,-,-,k2,-⟩:=Rec_rd (hr i hi')
    exact k2) hS
  have HSZ:Hid (∀ ss:List (List UInt8),ss.Perm (strKeys D) → ss.length ≤ 1000000):=fun ss hS => by
    have e1:=hS.length_eq;obtain ⟨es,rfl,_⟩:=hown.keysOf
    have e2:(strKeys (.map es:DataW Value)).length = es.length:=by show (es.map _).length = _;simp
    rw [Maps.size_eq] at hsz;omega
  have CK:=callsIn_wide.1 (itMapsKeys (some b1) w);have CS:=callsIn_wide.1 (itSortedKeys b1 N D heldR w hown (by unfold maxLen;omega) (by omega));clear h hr hk hown hf hsz
  go_enter Tryz.func29,Tryz.ntmps29
  go_wp2_with fail
  refine CK.mono ?_;rintro e w1 ⟨rfl,rfl⟩
  go_wp2_with fail
  refine CS.mono ?_;rintro e w2 ⟨vs,ss,rfl,hS,hrow,hnil,hb2⟩;have hNm:=HF.out ss hS;have hlen:=HSZ.out ss hS;obtain ⟨ns,hns⟩:∃ ns,ns = ss.mergeSort (fun x y => decide (x ≤ y)):=⟨_,rfl⟩
  have hnl:ns.length = ss.length:=by rw [hns];exact (List.mergeSort_perm ss _).length_eq
  rw [← hns] at hNm hrow;rw [← hnl] at hrow hlen;have HNM:Hid (Names x N ns):=hNm;have bel2:Below w.heap.size w w2:=((Below.refl _ w).alloc (Nat.le_refl _) _).trans (hb2.mono (by simp));have HB2:Hid (Below w.heap.size w w2):=bel2;have z2:w.heap.size ≤ w2.heap.size:=bel2.size
  obtain ⟨ao,cap,hvs⟩:∃ ao cap,vs = .slice ao ns.length cap:=by
    rcases hrow.2 with ⟨rfl,e⟩ | ⟨g,c,cur,rfl,_⟩
    · exact ⟨none,0,by rw [e]⟩
    · exact ⟨_,_,rfl⟩
  subst hvs;have HROW:Hid (w2.ownsRow (w.alloc (.cells #[.map (some b1)] 98)).heap.size 9 1 (.slice ao ns.length cap) ns.length (ns.map encStr)):=hrow;obtain ⟨M,hM⟩:∃ M,M = ns.length:=⟨_,rfl⟩;have HM:Hid (M = ns.length):=hM;rw [← hM] at hlen ⊢;clear CK CS hS hrow hnil hb2 hns hnl hNm bel2 d4 hM;go_wp2
  go_loopw [3,14] (fun u i wr => ∃ (k:Nat) (cu:Nat → List Value),k ≤ M ∧ i = .int .i64 k ∧ View layRec 66 wr w2.heap.size hi u (lvL x N (ns.take k)).length (fun i => x ((lvL x N (ns.take k)).getD i 0)) cu ∧ Below w2.heap.size w2 wr) (fun _ i _ => M - (intOf i).toNat)
  case atStart => exact ⟨0,fun _ => [],Nat.zero_le _,rfl,View.nil _ _ _ _ _,Below.refl _ _⟩
  case round =>
    obtain ⟨k,cu,hk,rfl,hV,hb⟩:=hrel;obtain ⟨c,hc⟩:∃ c,c = (lvL x N (ns.take k)).length:=⟨_,rfl⟩;have HC:Hid (c = (lvL x N (ns.take k)).length):=hc;rw [← hc] at hV
    have hck:c ≤ k:=by
      have h1:=lvL_len x N (ns.take k);have h2:=List.length_take_le k ns;omega
    obtain ⟨au,cau,hu⟩:=hV.form;subst hu;have HV:Hid (View layRec 66 wr w2.heap.size hi (.slice au c cau) c (fun i => x ((lvL x N (ns.take k)).getD i 0)) cu):=hV;have HB:Hid (Below w2.heap.size w2 wr):=hb;have zr:w2.heap.size ≤ wr.heap.size:=hb.size;have HBW:Hid (Below w.heap.size w wr):=HB2.out.trans (hb.mono z2)
    by_cases hlt:k < M
    · have hkn:k < ns.length:=by rw [← HM.out];exact hlt
      obtain ⟨gs,hga,ye⟩:∃ gs,ao = some ⟨gs,0,none⟩ ∧ wr.cell? ⟨gs,k,none⟩ = some (encStr (ns[k])):=by
        rcases HROW.out.2 with ⟨_,e⟩ | ⟨g,c0,cur,e,q1,q2,q3,q4,q5,q6⟩
        · omega
        · cases e
          refine ⟨g,rfl,?_⟩
          have hg:g < w2.heap.size:=by
            obtain ⟨hh,_⟩:=Array.getElem?_eq_some_iff.1 q2;exact hh
          have e1:cur.toList[k]? = some (encStr (ns[k])):=by
            have:(cur.toList.take (ns.length * 1))[k]? = some (encStr (ns[k])):=by
              rw [q6,List.getElem?_map,List.getElem?_eq_getElem hkn];rfl
            rw [List.getElem?_take,if_pos (by omega)] at this;exact this
          rw [hb.cell (p:=⟨g,k,none⟩) hg,cell_of_row w2 g k cur _ _ q2]
          simpa using e1
      subst hga;obtain ⟨nk,hnk⟩:∃ nk,nk = ns[k]:=⟨_,rfl⟩;rw [← hnk] at ye
      have hmem:nk ∈ ns:=by rw [hnk];exact List.getElem_mem hkn
      obtain ⟨j1,j2,j3,j4⟩:=HNM.out.idx_is hmem;have hll:=(HNM.out.at_ nk hmem).1;obtain ⟨j,hj⟩:∃ j,j = idx x N nk:=⟨_,rfl⟩;rw [← hj] at j1 j2 j3 j4;obtain ⟨kl,hkl⟩:=keyOf_S (s:=⟨nk.toArray⟩) (by show nk.toArray.size ≤ maxLen;simpa using hll);have Lr:=HL.out.keepAll (fun b hb' => HBW.out.block b hb');have hlook:=Lr.m1.look keyS Tryz.underlying98 (zeroIE _) hkl;rw [(newF_at x ce _ N).2 j j2] at hlook;have hlk:(Instr.lookup 98 (.map (some b1)) (.string ⟨nk.toArray⟩) false).run Tryz.prog wr = .ok (.agg (ce j).toArray) wr:=hlook;have d4:wr.cell? ⟨B,10,none⟩ = some (.map (some b1)):=Lr.box.cell 10;have ye':wr.cell? ⟨gs,k,none⟩ = some (.string ⟨nk.toArray⟩):=ye;have HJ:Hid (j < N):=j1;have hiff:=HK.out j j1 j3;obtain ⟨r,hrr⟩:∃ r,r = x j:=⟨_,rfl⟩;have HRR:Hid (r = x j):=hrr;rw [← hrr] at hiff
      have rdj:layRec.rd wr hi r (ce j):=by rw [hrr];exact layRec.rd_below (HR.out j j1) HBW.out hhi
      have hcl:(ce j).length = 9:=layRec.rd_len rdj;have hone:=layRec_one rdj
      have HSN:Hid (lvL x N (ns.take (k + 1)) = lvL x N (ns.take k) ++ (if r.length = -1 then [] else [j])):=by
        show lvL x N (ns.take (k + 1)) = lvL x N (ns.take k) ++ (if r.length = -1 then [] else [j])
        rw [take_snoc ns hkn,lvL_snoc,← hnk,← hj,hrr]
      have t1:(k:Int) < (M:Int):=by omega
      have i1:(0:Int) ≤ (k:Int):=by omega
      have bA:Below wr.heap.size wr (wr.alloc (.cells (ce j).toArray 118)):=(Below.refl _ _).alloc (Nat.le_refl _) _;have X6:Box (wr.alloc (.cells (ce j).toArray 118)) wr.heap.size (ce j).toArray 118:=box_new _ _ _
      have y3:(wr.alloc (.cells (ce j).toArray 118)).cell? ⟨wr.heap.size,3,none⟩ = some (.int .i64 r.length):=by
        obtain ⟨ao6,cap6,ao7,cap7,ao8,cap8,hce,-⟩:=Rec_rd rdj;rw [X6.cell 3,hce];rfl
      obtain ⟨W6,hW6⟩:∃ y,y = wr.alloc (.cells (ce j).toArray 118):=⟨_,rfl⟩;rw [← hW6] at bA X6 y3;have HBA:Hid (Below wr.heap.size wr W6):=bA;have z6:wr.heap.size < W6.heap.size:=X6.lt;have HX6:Hid (Box W6 wr.heap.size (ce j).toArray 118):=X6;have HV6:Hid (View layRec 66 W6 w2.heap.size hi (.slice au c cau) c (fun i => x ((lvL x N (ns.take k)).getD i 0)) cu):=HV.out.below bA (by omega);have rd6:layRec.rd W6 hi r (ce j):=layRec.rd_below rdj bA (by omega);have HB6:Hid (Below w2.heap.size w2 W6):=HB.out.trans (bA.mono zr);clear hV hb hc Lr hlook ye hmem j1 j2 j3 j4 hj hkl hnk hrr bA X6
      by_cases hm:r.length = -1
      · have HE:Hid (lvL x N (ns.take (k + 1)) = lvL x N (ns.take k)):=by
          show lvL x N (ns.take (k + 1)) = lvL x N (ns.take k)
          rw [HSN.out,if_pos hm,List.append_nil]
        have dm:(r.length != -1) = false:=by simp [hm]
        clear hm hiff
        go_wp2_with (refine wp_allocStore 118 6 (.tmp 23) (ce j) _ 9 rfl rfl rfl rfl rfl rfl (by simp [Act.eval,Act.put]) (by simp [Act.eval,Act.put]) info_IE rfl hcl hone ?_;rw [← hW6];clear hW6)
        go_roundw
        case rel => exact ⟨k + 1,cu,by omega,by go_num,by rw [HE.out,← HC.out];exact HV6.out,HB6.out⟩
        case measure => simp [intOf];omega
      · have HE:Hid (lvL x N (ns.take (k + 1)) = lvL x N (ns.take k) ++ [j]):=by
          show lvL x N (ns.take (k + 1)) = lvL x N (ns.take k) ++ [j]
          rw [HSN.out,if_neg hm]
        have dm:(r.length != -1) = true:=by simp [hm]
        have bS:Below W6.heap.size W6 (W6.alloc (.cells (ce j).toArray 66)):=(Below.refl _ _).alloc (Nat.le_refl _) _;obtain ⟨v8,w8,hrun,V8,_,b8⟩:=run_appendV el_Rec rdOne_rec 54 (HV6.out.below bS (by omega)) 1 (src_one (b:=W6.heap.size) (hi:=hi) (y:=r) (cs:=ce j) (fun q hq => ((box_new W6 (ce j).toArray 66).cell q).trans (by simp)) (layRec.rd_below rd6 bS (by omega))) (by simp;omega) (by omega) (by omega) (fun e => by cases e)
        have HV8:Hid (View layRec 66 w8 w2.heap.size hi v8 (c + 1) (fun i => x ((lvL x N (ns.take (k + 1))).getD i 0)) (cat2 cu c (fun _ => ce j))):=by
          refine V8.congr (fun i hi' => ?_);rw [HE.out]
          by_cases c1:i < c
          · rw [cat2_lt _ _ c1,getD_snoc_lt (by rw [← HC.out];exact c1)]
          · obtain rfl:i = c:=by omega
            have e9:=cat2_ge (fun i => x ((lvL x N (ns.take k)).getD i 0)) i (fun _ => r) 0;rw [Nat.add_zero] at e9;rw [e9,HRR.out];have:=@getD_snoc_at (lvL x N (ns.take k)) j;rw [← HC.out] at this;rw [this]
        have HB8:Hid (Below w2.heap.size w2 w8):=HB6.out.trans ((bS.mono (by omega)).trans b8);obtain ⟨a8,c8,hv8⟩:=V8.form;have HV8F:Hid (v8 = .slice a8 (c + 1) c8):=hv8;have rg6:W6.rangeAt wr.heap.size 0 (ce j):=rangeB HX6.out;clear V8 b8 bS hv8 hm hiff
        go_wp2_with (first | (refine wp_allocStore 118 6 (.tmp 23) (ce j) _ 9 rfl rfl rfl rfl rfl rfl (by simp [Act.eval,Act.put]) (by simp [Act.eval,Act.put]) info_IE rfl hcl hone ?_;rw [← hW6];clear hW6) | (refine wpList_load_mid rfl 66 (.tmp 31) rfl wr.heap.size 0 (by simp [Act.eval,Act.put]) (ce j) _ rg6 Tryz.underlying66 rfl (info_Rec9 hcl) ?_) | (refine wp_build1R rfl (.tmp 32) rfl rd6 (by simp [Act.eval,Act.put]) ?_) | (at_builtin;refine wp_run2 rfl (.tmp 29) (.tmp 33) rfl ?_ ?_ hrun ?_;(simp [Act.eval,Act.put]);(simp [Act.eval,Act.put])))
        clear hrun;go_wp2
        go_roundw
        case rel => exact ⟨k + 1,_,by omega,by go_num,by rw [show (lvL x N (ns.take (k + 1))).length = c + 1 by rw [HE.out,List.length_append,← HC.out];rfl];exact HV8.out,HB8.out⟩
        case measure => simp [intOf];omega
    · obtain rfl:k = M:=by omega
      have e:ns.take k = ns:=by rw [HM.out];exact List.take_length
      have HLV:Hid (Live x N (lvL x N (ns.take k))):=by
        show Live x N (lvL x N (ns.take k))
        rw [e];exact lv_live HNM.out HK.out
      have HV9:Hid (View layRec 66 wr w.heap.size hi (.slice au c cau) c (fun i => x ((lvL x N (ns.take k)).getD i 0)) cu):=⟨ownsRow_low HV.out.row z2,HV.out.each⟩;clear hV hb e;go_wp2;go_ret;exact ⟨_,cu,lvL x N (ns.take k),rfl,HLV.out,by rw [← HC.out];exact HV9.out,HBW.out⟩
end Go.Proofs.YtfoidpcoiankoaaGreat
namespace Go.Proofs.YtfoidpcoiankoaaGreat
open Go.RowKit F256
def LiveK (x:Nat → RecD) (N k:Nat) (l:List Nat):Prop:=(∀ i,i ∈ l ↔ i < k ∧ LiveP x N i) ∧ l.Pairwise (fun a b => nmL (x a) < nmL (x b))
theorem bl_eq (a b:ByteArray):Op.bytesLess a.toList b.toList = decide (a.data.toList < b.data.toList):=by
  rw [bytesLess_eq,ByteArray.toList_eq,ByteArray.toList_eq]
theorem LiveK.nil (x:Nat → RecD) (N:Nat):LiveK x N 0 []:=⟨fun i => ⟨(fun h => by cases h),(fun h => by omega)⟩,List.Pairwise.nil⟩
theorem LiveK.skip {x:Nat → RecD} {N k:Nat} {l:List Nat} (h:LiveK x N k l) (hn:¬ LiveP x N k):LiveK x N (k + 1) l :=
  ⟨fun i => by
    rw [h.1 i]
    constructor
    · rintro ⟨h1,h2⟩
      exact ⟨by omega,h2⟩
    · rintro ⟨h1,h2⟩
      refine ⟨?_,h2⟩
      by_cases e:i = k
      · subst e;exact absurd h2 hn
      · omega,h.2⟩
theorem LiveK.done {x:Nat → RecD} {N:Nat} {l:List Nat} (h:LiveK x N N l):Live x N l:=⟨fun i => by rw [h.1 i];exact ⟨fun h => h.2,fun h => ⟨h.1,h⟩⟩,h.2⟩
theorem LiveP.same {x:Nat → RecD} {N a b:Nat} (h:LiveP x N a) (k:LiveP x N b) (e:nmL (x a) = nmL (x b)):a = b:=by
  have e2:(x a).name = (x b).name:=by
    have h1:=bytesOf (x a).name;have h2:=bytesOf (x b).name;rw [← h1,← h2];exact congrArg (fun l:List UInt8 => (⟨l.toArray⟩:ByteArray)) e
  have h1:=h.2.2.2;have h2:=k.2.2.2;rw [e2,h2] at h1;omega
theorem LiveK.ins {x:Nat → RecD} {N M:Nat} {l:List Nat} (h:LiveK x N M l) (hp:LiveP x N M) (al:Nat) (hat:al ≤ l.length) (hbeh:∀ k,al ≤ k → k < l.length → nmL (x M) < nmL (x (l.getD k 0))) (hS:al = 0 ∨ ¬ nmL (x M) < nmL (x (l.getD (al - 1) 0))):LiveK x N (M + 1) (l.take al ++ M :: l.drop al):=by
  have hmem:∀ i,i ∈ l.take al ++ M :: l.drop al ↔ i = M ∨ i ∈ l:=fun i => by
    have e:i ∈ l ↔ i ∈ l.take al ∨ i ∈ l.drop al:=by
      rw [← List.mem_append,List.take_append_drop]
    rw [List.mem_append,List.mem_cons,e]
    constructor
    · rintro (h | h | h)
      · exact .inr (.inl h)
      · exact .inl h
      · exact .inr (.inr h)
    · rintro (h | h | h)
      · exact .inr (.inl h)
      · exact .inl h
      · exact .inr (.inr h)
  have hpl:=h.2;rw [← List.take_append_drop al l] at hpl;obtain ⟨p1,p2,p3⟩:=List.pairwise_append.1 hpl
  have hb:∀ a,a ∈ l.drop al → nmL (x M) < nmL (x a):=fun a ha => by
    obtain ⟨j,hj,rfl⟩:=List.getElem_of_mem ha;rw [List.length_drop] at hj;have:=hbeh (al + j) (by omega) (by omega);rw [List.getElem_drop];rw [List.getD_eq_getElem?_getD,List.getElem?_eq_getElem (by omega)] at this;exact this
  have ha:∀ a,a ∈ l.take al → nmL (x a) < nmL (x M):=fun a ha => by
    obtain ⟨j,hj,rfl⟩:=List.getElem_of_mem ha;rw [List.length_take] at hj;rw [List.getElem_take]
    have hal:al - 1 < l.length:=by omega
    have hlast:nmL (x (l[al - 1]'hal)) < nmL (x M):=by
      rcases hS with e | hS
      · omega
      · rw [List.getD_eq_getElem?_getD,List.getElem?_eq_getElem hal] at hS
        have hne:nmL (x (l[al - 1]'hal)) ≠ nmL (x M):=fun e => by
          have hm:=(h.1 _).1 (List.getElem_mem hal);have:=LiveP.same hm.2 hp e;omega
        apply Classical.byContradiction
        intro hn;exact hne (List.le_antisymm (List.not_lt.1 hS) (List.not_lt.1 hn))
    by_cases e:j = al - 1
    · subst e;exact hlast
    · have:=List.pairwise_iff_getElem.1 h.2 j (al - 1) (by omega) hal (by omega)
      exact List.lt_trans this hlast
  refine ⟨fun i => ?_,List.pairwise_append.2 ⟨p1,List.pairwise_cons.2 ⟨hb,p2⟩,fun a h1 b h2 => ?_⟩⟩
  · rw [hmem,h.1 i]
    constructor
    · rintro (rfl | ⟨h1,h2⟩)
      · exact ⟨by omega,hp⟩
      · exact ⟨by omega,h2⟩
    · rintro ⟨h1,h2⟩
      by_cases e:i = M
      · exact .inl e
      · exact .inr ⟨by omega,h2⟩
  · rcases List.mem_cons.1 h2 with rfl | h2
    · exact ha a h1
    · exact p3 a h1 b h2
theorem place_ex (p:Nat → Prop):∀ n,∃ al,al ≤ n ∧ (∀ k,al ≤ k → k < n → p k) ∧ (al = 0 ∨ ¬ p (al - 1))
  | 0 => ⟨0,Nat.le_refl _,fun k h1 h2 => by omega,.inl rfl⟩
  | n + 1 => by
    by_cases h:p n
    · obtain ⟨al,h1,h2,h3⟩:=place_ex p n
      exact ⟨al,by omega,fun k q1 q2 => by
        by_cases e:k = n
        · subst e;exact h
        · exact h2 k q1 (by omega),h3⟩
    · exact ⟨n + 1,Nat.le_refl _,fun k h1 h2 => by omega,.inr h⟩
theorem liveK_ex (x:Nat → RecD) (N:Nat):∀ k,∃ l,LiveK x N k l
  | 0 => ⟨_,LiveK.nil x N⟩
  | k + 1 => by
    obtain ⟨l,h⟩:=liveK_ex x N k
    by_cases hp:LiveP x N k
    · obtain ⟨al,h1,h2,h3⟩:=place_ex (fun i => nmL (x k) < nmL (x (l.getD i 0))) l.length
      exact ⟨_,h.ins hp al h1 h2 h3⟩
    · exact ⟨l,h.skip hp⟩
theorem live_ex (x:Nat → RecD) (N:Nat):∃ l,Live x N l:=by
  obtain ⟨l,h⟩:=liveK_ex x N N;exact ⟨l,h.done⟩
set_option maxHeartbeats 8000000 in
set_option maxRecDepth 100000 in
theorem l6Live_any (v:Value) (N:Nat) (x0:Nat → RecD) (hi:Nat) (w:World) (h:(layRec.slice 66).rd w hi (N,x0) [v]) (hhi:hi ≤ w.heap.size) (hNb:N ≤ 800000) :
    Calls Tryz.prog 49 #[v] w (fun e w' => ∃ v' l ce lo,e = .returned v' ∧ Live x0 N l ∧ w.heap.size ≤ lo ∧ View layRec 66 w' lo hi v' l.length (fun i => x0 (l.getD i 0)) ce ∧ Below w.heap.size w w'):=by
  obtain ⟨ao0,cap0,ev,_⟩:=h
  obtain rfl:v = .slice ao0 N cap0:=by simpa using ev
  have HRS:Hid (∀ w',Below w.heap.size w w' → (layRec.slice 66).rd w' hi (N,x0) [.slice ao0 N cap0]):=fun w' hb => Lay.rd_below _ ⟨ao0,cap0,ev,by assumption⟩ hb hhi;have bL:Below w.heap.size w (w.alloc (.cells #[] 66)):=(Below.refl _ _).alloc (Nat.le_refl _) _;have V0:=View.lit0 (E:=layRec) (t:=66) (fun i => x0 (([]:List Nat).getD i 0)) (fun _ => []) w hi;clear ev
  go_enter Tryz.func49,Tryz.ntmps49
  go_wp2
  go_loopw [3,4] (fun vo vi wr => ∃ (i lo:Nat) (l:List Nat) (co:Nat → List Value),i ≤ N ∧ vi = .int .i64 i ∧ w.heap.size ≤ lo ∧ lo ≤ wr.heap.size ∧ LiveK x0 N i l ∧ l.length ≤ i ∧ View layRec 66 wr lo hi vo l.length (fun i => x0 (l.getD i 0)) co ∧ Below w.heap.size w wr) (fun _ i _ => N - (intOf i).toNat)
  case atStart => exact ⟨0,w.heap.size,[],fun _ => [],Nat.zero_le _,rfl,Nat.le_refl _,bL.size,LiveK.nil x0 N,Nat.zero_le _,V0,bL⟩
  case round =>
        clear bL V0;obtain ⟨i,lo,l,co,hi',rfl,hlo,hlow,hLK,hLl,V,bw⟩:=hrel;obtain ⟨wi,rfl⟩:∃ y,y = wr:=⟨_,rfl⟩;obtain ⟨n,hn⟩:∃ n,n = l.length:=⟨_,rfl⟩;have HN:Hid (n = l.length):=hn;rw [← hn] at V hLl;have HLK:Hid (LiveK x0 N i l):=hLK;obtain ⟨ao,cap,hvo⟩:=V.form;subst hvo;have HV:Hid (View layRec 66 wi lo hi (.slice ao n cap) n (fun i => x0 (l.getD i 0)) co):=V;have HBW:Hid (Below w.heap.size w wi):=bw;have zr:w.heap.size ≤ wi.heap.size:=bw.size;have hrs:=HRS.out wi bw;clear hLK hn V bw
        by_cases hlt2:i < N
        · obtain ⟨cy,hS,-⟩:=src_of hrs
          obtain ⟨b,off,hrb,hcell⟩:=hS.1 (by omega);subst hrb;have rdR:=hS.2 i hlt2;have hcR:(cy i).length = 9:=layRec.rd_len rdR
          have rgR:wi.rangeAt b (off + i * 9) (cy i):=fun j v hv => by
            have hj:j < 9:=by rw [← hcR];exact (List.getElem?_eq_some_iff.1 hv).1
            have:=hcell i hlt2 j hj;rw [show off + (i * layRec.sz + j) = off + i * 9 + j from (Nat.add_assoc _ _ _).symm] at this;exact this.trans hv
          obtain ⟨cR,hcRe⟩:∃ c,c = cy i:=⟨_,rfl⟩;rw [← hcRe] at rgR hcR rdR;obtain ⟨M,hM⟩:∃ M,M = i:=⟨_,rfl⟩;have HMM:Hid (M = i):=hM;rw [← hM] at rdR HLK;have oneR:∀ v,v ∈ cR → v.oneCell' = true:=rdOne_rec _ _ _ _ rdR
          have i1:(0:Int) ≤ (i:Int):=by omega
          have i2:(i:Int) < (N:Int):=by omega
          have bA:Below wi.heap.size wi (wi.alloc (.cells cR.toArray 66)):=(Below.refl _ _).alloc (Nat.le_refl _) _;have XA:Box (wi.alloc (.cells cR.toArray 66)) wi.heap.size cR.toArray 66:=box_new _ _ _;have rdW:layRec.rd (wi.alloc (.cells cR.toArray 66)) hi (x0 M) cR:=layRec.rd_below rdR bA (by omega)
          have hML:M < N:=by omega
          clear hrs hS hcell hcRe rdR hM
          go_upto_region 6 with (first | (refine wpList_load_mid rfl 66 (.tmp 16) rfl b (off + i * 9) (by simp [Act.eval]) cR _ rgR Tryz.underlying66 rfl (info_Rec9 hcR) ?_) | (refine wp_allocStore 66 5 (.tmp 17) cR _ 9 rfl rfl rfl rfl rfl rfl rfl rfl info_RecZ rfl hcR oneR ?_))
          obtain ⟨W,hW⟩:∃ x,x = wi.alloc (.cells cR.toArray 66):=⟨_,rfl⟩;rw [← hW] at bA XA rdW ⊢;clear hW rgR;have VW:=HV.out.below bA (by omega);have zW':wi.heap.size < W.heap.size:=XA.lt;have HXW:Hid (Box W wi.heap.size cR.toArray 66):=XA;have HVW:Hid (View layRec 66 W lo hi (.slice ao n cap) n (fun i => x0 (l.getD i 0)) co):=VW;have HRW:Hid (layRec.rd W hi (x0 M) cR):=rdW;have HBW2:Hid (Below w.heap.size w W):=HBW.out.trans (bA.mono zr)
          have HCE:Hid (cR[0]? = some (.int .i64 (x0 M).kind) ∧ cR[2]? = some (.string (x0 M).name) ∧ cR[3]? = some (.int .i64 (x0 M).length)):=by
            obtain ⟨ao6,cap6,ao7,cap7,ao8,cap8,hce,-⟩:=Rec_rd rdW;rw [hce];exact ⟨rfl,rfl,rfl⟩
          obtain ⟨kd,hkd⟩:∃ k,k = (x0 M).kind:=⟨_,rfl⟩;obtain ⟨ln,hln⟩:∃ k,k = (x0 M).length:=⟨_,rfl⟩;obtain ⟨nm,hnm⟩:∃ k,k = (x0 M).name:=⟨_,rfl⟩
          have y0:W.cell? ⟨wi.heap.size,0,none⟩ = some (.int .i64 kd):=by rw [XA.cell 0,hkd];simpa using HCE.out.1
          have y2:W.cell? ⟨wi.heap.size,2,none⟩ = some (.string nm):=by rw [XA.cell 2,hnm];simpa using HCE.out.2.1
          have y3:W.cell? ⟨wi.heap.size,3,none⟩ = some (.int .i64 ln):=by rw [XA.cell 3,hln];simpa using HCE.out.2.2
          have HKD:Hid (kd = (x0 M).kind):=hkd;have HLN:Hid (ln = (x0 M).length):=hln;have HNM:Hid (nm = (x0 M).name):=hnm;clear VW XA rdW bA HV HBW hkd hln hnm
          by_cases ck:kd = 1
          case neg =>
            have d1:(kd != 1) = true:=by simp [ck]
            have HNO:Hid (¬ LiveP x0 N M):=fun q => ck (HKD.out.trans q.2.1);clear ck;go_wp2
            go_roundw
            case rel => exact ⟨i + 1,lo,l,co,by omega,by go_num,hlo,by omega,by rw [← HMM.out];exact HLK.out.skip HNO.out,by rw [← HN.out];omega,by rw [← HN.out];exact HVW.out,HBW2.out⟩
            case measure => simp [intOf];omega
          have d1:(kd != 1) = false:=by simp [ck]
          have HCK:Hid (kd = 1):=ck;clear ck
          by_cases cl:ln < 0
          case pos =>
            have HNO:Hid (¬ LiveP x0 N M):=fun q => q.2.2.1 (by rw [← HLN.out];exact cl);go_wp2
            go_roundw
            case rel => exact ⟨i + 1,lo,l,co,by omega,by go_num,hlo,by omega,by rw [← HMM.out];exact HLK.out.skip HNO.out,by rw [← HN.out];omega,by rw [← HN.out];exact HVW.out,HBW2.out⟩
            case measure => simp [intOf];omega
          have HCL:Hid (¬ ln < 0):=cl;have CN:=l6Newest_any (.slice (some ⟨b,off,none⟩) N cap0) N x0 nm hi W (HRS.out W HBW2.out) (by omega) (by omega);obtain ⟨at9,hat9⟩:∃ a,a = lastI (itm x0 nm) N:=⟨_,rfl⟩;have HAT9:Hid (at9 = lastI (itm x0 nm) N):=hat9;rw [← hat9] at CN;clear hat9
          go_wp2_with fail
          refine CN.mono ?_;rintro ee w5 ⟨rfl,b5⟩;have z5:W.heap.size ≤ w5.heap.size:=b5.size;have HV5:Hid (View layRec 66 w5 lo hi (.slice ao n cap) n (fun i => x0 (l.getD i 0)) co):=HVW.out.below b5 (by omega);have HX5:Hid (Box w5 wi.heap.size cR.toArray 66):=HXW.out.below b5 zW';have HR5:Hid (layRec.rd w5 hi (x0 M) cR):=layRec.rd_below HRW.out b5 (by omega);have HB5:Hid (Below w.heap.size w w5):=HBW2.out.trans (b5.mono (by omega));clear b5 CN HVW HXW HRW HBW2 y0 y2 y3
          by_cases ca:at9 = (i:Int)
          case neg =>
            have da:(at9 != (i:Int)) = true:=by simp [ca]
            have HNO:Hid (¬ LiveP x0 N M):=fun q => ca (by rw [HAT9.out,HNM.out,q.2.2.2,HMM.out]);have HVW:=HV5;have HBW2:=HB5;clear ca;go_wp2
            go_roundw
            case rel => exact ⟨i + 1,lo,l,co,by omega,by go_num,hlo,by omega,by rw [← HMM.out];exact HLK.out.skip HNO.out,by rw [← HN.out];omega,by rw [← HN.out];exact HVW.out,HBW2.out⟩
            case measure => simp [intOf];omega
          have da:(at9 != (i:Int)) = false:=by simp [ca]
          have HF:Hid (LiveP x0 N M):=⟨hML,by rw [← HKD.out];exact HCK.out,by rw [← HLN.out];omega,by rw [← HNM.out,← HAT9.out,ca,HMM.out]⟩;clear ca cl;go_wp2
          go_loopw [6] (fun va wx => ∃ at_:Nat,at_ ≤ n ∧ va = .int .i64 at_ ∧ (∀ k,at_ ≤ k → k < n → nmL (x0 M) < nmL (x0 (l.getD k 0))) ∧ Below w5.heap.size w5 wx) (fun va _ => (intOf va).toNat)
          case atStart => exact ⟨n,Nat.le_refl _,by go_num,fun k h1 h2 => by omega,Below.refl _ _⟩
          case round =>
              obtain ⟨at_,hat,rfl,hbeh,bx⟩:=hrel;obtain ⟨wx,rfl⟩:∃ y,y = wr:=⟨_,rfl⟩;have HBE:Hid (∀ k,at_ ≤ k → k < n → nmL (x0 M) < nmL (x0 (l.getD k 0))):=hbeh;have zx:w5.heap.size ≤ wx.heap.size:=bx.size;have HVx:Hid (View layRec 66 wx lo hi (.slice ao n cap) n (fun i => x0 (l.getD i 0)) co):=HV5.out.below bx (by omega);have HXx:Hid (Box wx wi.heap.size cR.toArray 66):=HX5.out.below bx (by omega);have HRx:Hid (layRec.rd wx hi (x0 M) cR):=layRec.rd_below HR5.out bx (by omega);have HBx:Hid (Below w.heap.size w wx):=HB5.out.trans (bx.mono (by omega));have HB5x:Hid (Below w5.heap.size w5 wx):=bx;have bD:Below wx.heap.size wx wx.drew:=⟨rfl,rfl,rfl,Nat.le_refl _,fun _ _ => rfl⟩;clear hbeh bx
              by_cases hat0:at_ = 0
              · have d1:decide (0 < at_) = false:=decide_eq_false (by omega)
                have d2:decide ((0:Int) < (at_:Int)) = false:=decide_eq_false (by omega);have HS:Hid (at_ = 0 ∨ ¬ nmL (x0 M) < nmL (x0 (l.getD (at_ - 1) 0))):=.inl hat0;clear hat0
                go_upto_region 8 with fail
                refine wp_region_M 13 (fun w' => True) mixedO trivial (fun hHeld => ?_);refine wpAnyM_pure (i:=0) (oi:=_) (v:=?_) rfl (by kernel_rfl) (fun _ _ _ h => h) (Or.inl ⟨by kernel_rfl,?_⟩) (by assumption) ?_
                rotate_left
                · intro w' hSw;go_simp;try with_reducible rfl
                try simp only [Act.put,SL]
                refine wpAnyM_pure (i:=1) (oi:=_) (v:=?_) rfl (by kernel_rfl) (fun _ _ _ h => h) (Or.inl ⟨by kernel_rfl,?_⟩) (by assumption) ?_
                rotate_left
                · intro w' hSw;go_simp;try with_reducible rfl
                try simp only [Act.put,SL]
                try rw [d1]
                refine wpAnyM_pure (i:=2) (oi:=_) (v:=?_) rfl (by kernel_rfl) (fun _ _ _ h => h) (Or.inl ⟨by kernel_rfl,?_⟩) (by assumption) ?_
                rotate_left
                · intro w' hSw;go_simp;try with_reducible rfl
                try simp only [Act.put,SL]
                refine wpAnyM_pure (i:=3) (oi:=_) (v:=undef) rfl (by kernel_rfl) (fun _ _ _ h => h) (Or.inr ⟨by kernel_rfl,rfl⟩) (by assumption) ?_
                try simp only [Act.put,SL]
                refine wpAnyM_pure (i:=4) (oi:=_) (v:=undef) rfl (by kernel_rfl) (fun _ _ _ h => h) (Or.inr ⟨by kernel_rfl,rfl⟩) (by assumption) ?_
                try simp only [Act.put,SL]
                refine wpAnyM_pure (i:=5) (oi:=_) (v:=undef) rfl (by kernel_rfl) (fun _ _ _ h => h) (Or.inr ⟨by kernel_rfl,rfl⟩) (by assumption) ?_
                try simp only [Act.put,SL]
                refine wpAnyM_pure (i:=6) (oi:=_) (v:=undef) rfl (by kernel_rfl) (fun _ _ _ h => h) (Or.inr ⟨by kernel_rfl,rfl⟩) (by assumption) ?_
                try simp only [Act.put,SL]
                refine wpAnyM_pure (i:=7) (oi:=_) (v:=undef) rfl (by kernel_rfl) (fun _ _ _ h => h) (Or.inr ⟨by kernel_rfl,rfl⟩) (by assumption) ?_
                try simp only [Act.put,SL]
                refine wpAnyM_pure (i:=8) (oi:=_) (v:=undef) rfl (by kernel_rfl) (fun _ _ _ h => h) (Or.inr ⟨by kernel_rfl,rfl⟩) (by assumption) ?_
                try simp only [Act.put,SL]
                refine wpAnyM_pure (i:=9) (oi:=_) (v:=undef) rfl (by kernel_rfl) (fun _ _ _ h => h) (Or.inr ⟨by kernel_rfl,rfl⟩) (by assumption) ?_
                try simp only [Act.put,SL]
                refine wpAnyM_pure (i:=10) (oi:=_) (v:=undef) rfl (by kernel_rfl) (fun _ _ _ h => h) (Or.inr ⟨by kernel_rfl,rfl⟩) (by assumption) ?_
                try simp only [Act.put,SL]
                refine wpAnyM_pure (i:=11) (oi:=_) (v:=undef) rfl (by kernel_rfl) (fun _ _ _ h => h) (Or.inr ⟨by kernel_rfl,rfl⟩) (by assumption) ?_
                try simp only [Act.put,SL]
                refine wpAnyM_pure (i:=12) (oi:=_) (v:=?_) rfl (by kernel_rfl) (fun _ _ _ h => h) (Or.inl ⟨by kernel_rfl,?_⟩) (by assumption) ?_
                rotate_left
                · intro w' hSw;go_simp;try with_reducible rfl
                try simp only [Act.put,SL]
                refine wpAnyM_done (by kernel_rfl) ?_ _;obtain ⟨w9,hw9⟩:∃ x,x = wx.drew:=⟨_,rfl⟩;rw [← hw9] at bD ⊢;have b9:Below wx.heap.size wx w9:=bD;clear bD hw9 hHeld d1 d2;have z9:wx.heap.size ≤ w9.heap.size:=b9.size;have V9:=(HVx.out.below b9 (by omega)).drew;have b9':Below wx.heap.size wx w9.drew:=b9.trans (show Below wx.heap.size w9 w9.drew from ⟨rfl,rfl,rfl,Nat.le_refl _,fun _ _ => rfl⟩);have X9:Box w9.drew wi.heap.size cR.toArray 66:=HXx.out.below b9' (by omega);have R9:layRec.rd w9.drew hi (x0 M) cR:=layRec.rd_below HRx.out b9' (by omega);have B9:Below w.heap.size w w9.drew:=HBx.out.trans (b9'.mono (by omega))
                have rg9:w9.drew.rangeAt wi.heap.size 0 cR:=fun j v hv => by
                  have:=(X9.cell j).trans (by simpa using hv);rw [Nat.zero_add];exact this
                obtain ⟨D,hD⟩:∃ D,D = w9.drew:=⟨_,rfl⟩;have HD:Hid (D = w9.drew):=hD;rw [← hD] at V9 X9 R9 B9 rg9
                have zD:w9.heap.size = D.heap.size:=by rw [hD];rfl
                clear hD b9 b9';obtain ⟨aU,cU,hUr,sU,hUz⟩:=V9.upto_ (show hi ≤ D.heap.size by omega) (al:=at_) hat;obtain ⟨aF,cF,hFr,sF,rF,hFz⟩:=V9.from_ (show hi ≤ D.heap.size by omega) (al:=at_) hat
                have hAU:∀ b off,aU = some ⟨b,off,none⟩ → b < D.heap.size:=fun b off e => by
                  rcases V9.form2 with ⟨e3,e4⟩ | ⟨g,cp,e3,e4,hg⟩
                  · have hz:at_ = 0:=by omega
                    have:=hUr D;rw [e3,hz,run_upto0 D] at this
                    simp only [Result.ok.injEq,Value.slice.injEq,and_true] at this
                    rw [← this.1] at e
                    cases e
                  · have:=hUr D
                    rw [e3,run_upto9 g n cp at_ hat e4 D] at this
                    simp only [Result.ok.injEq,Value.slice.injEq,and_true] at this
                    rw [← this.1] at e
                    cases e
                    exact hg
                have hAF:∀ b off,aF = some ⟨b,off,none⟩ → b < D.heap.size:=fun b off e => by
                  rcases V9.form2 with ⟨e3,e4⟩ | ⟨g,cp,e3,e4,hg⟩
                  · have hz:at_ = 0:=by omega
                    have:=hFr D;rw [e3,hz,run_from0 D] at this
                    simp only [Result.ok.injEq,Value.slice.injEq,and_true] at this
                    rw [← this.1] at e
                    cases e
                  · have:=hFr D
                    rw [e3,run_from9 g n cp at_ hat D] at this
                    simp only [Result.ok.injEq,Value.slice.injEq,and_true] at this
                    rw [← this.1] at e
                    split at e <;> cases e <;> exact hg
                have hiD:hi ≤ D.heap.size:=by omega
                have hpD:wi.heap.size < D.heap.size:=X9.lt
                have hatL:at_ ≤ l.length:=by rw [← HN.out];exact hat
                have HCN:Hid (LiveK x0 N (M + 1) (l.take at_ ++ M :: l.drop at_)):=HLK.out.ins HF.out at_ hatL (fun k h1 h2 => HBE.out k h1 (by rw [HN.out];exact h2)) HS.out;have HRd:Hid (layRec.rd D hi (x0 M) cR):=R9;have HBD:Hid (Below w.heap.size w D):=B9;have HUS:Hid (Src layRec D hi aU at_ (fun i => x0 (l.getD i 0)) co):=sU;have HFS:Hid (Src layRec D hi aF (n - at_) (fun j => x0 (l.getD (at_ + j) 0)) (fun j => co (at_ + j))):=sF;clear V9 X9 R9 B9 sU sF rF
                go_upto_region 10 with fail
                refine wp_region_M 7 (fun w' => w'.rangeAt wi.heap.size 0 cR) mixedO (by rw [← HD.out];exact rg9) (fun hHeld => ?_);rw [← HD.out] at hHeld ⊢;refine wpAnyM_pure (i:=1) (oi:=_) (v:=?_) rfl (by kernel_rfl) (fun _ _ _ h => h) (Or.inl ⟨by kernel_rfl,?_⟩) (by assumption) ?_
                rotate_left
                · intro w' hSw;go_simp;try with_reducible rfl
                try simp only [Act.put,SL]
                refine wpAnyM_pure (i:=2) (oi:=_) (v:=?_) rfl (by kernel_rfl) (fun _ _ _ h => h) (Or.inl ⟨by kernel_rfl,?_⟩) (by assumption) ?_
                rotate_left
                · intro w' hSw;go_simp;try with_reducible rfl
                try simp only [Act.put,SL]
                refine wpAnyM_pure (i:=3) (oi:=_) (v:=?_) rfl (by kernel_rfl) (fun _ _ _ h => h) (Or.inl ⟨by kernel_rfl,?_⟩) (by assumption) ?_
                rotate_left
                · intro w' hSw
                  try rw [show (Instr.slice 54 (.slice ao n cap) none (some (.int .i64 (at_:Int))) none).run Tryz.prog w' = _ from hUr w']
                  have hSl':=hUr w';go_simp
                  try with_reducible rfl
                try simp only [Act.put,SL]
                refine wpAnyM_take (i:=5) (oi:=_) (v:=.agg cR.toArray) 16 rfl (by kernel_rfl) (fun _ _ _ h => h) (yieldsIf_load_mid (by kernel_rfl) 66 (.tmp 5) rfl wi.heap.size (0) (by simp [Act.eval,Act.put]) cR _ (fun w h => h) Tryz.underlying66 rfl (info_Rec9 hcR)) (by assumption) ?_
                try simp only [Act.put,SL]
                refine wpAnyM_pure (i:=8) (oi:=_) (v:=?_) rfl (by kernel_rfl) (fun _ _ _ h => h) (Or.inl ⟨by kernel_rfl,?_⟩) (by assumption) ?_
                rotate_left
                · intro w' hSw;go_simp;try with_reducible rfl
                try simp only [Act.put,SL]
                refine wpAnyM_pure (i:=9) (oi:=_) (v:=?_) rfl (by kernel_rfl) (fun _ _ _ h => h) (Or.inl ⟨by kernel_rfl,?_⟩) (by assumption) ?_
                rotate_left
                · intro w' hSw;go_simp;try with_reducible rfl
                try simp only [Act.put,SL]
                refine wpAnyM_pure (i:=10) (oi:=_) (v:=?_) rfl (by kernel_rfl) (fun _ _ _ h => h) (Or.inl ⟨by kernel_rfl,?_⟩) (by assumption) ?_
                rotate_left
                · intro w' hSw
                  try rw [show (Instr.slice 54 (.slice ao n cap) (some (.int .i64 (at_:Int))) none none).run Tryz.prog w' = _ from hFr w']
                  have hSl':=hFr w';go_simp
                  try with_reducible rfl
                try simp only [Act.put,SL]
                refine wpAnyM_twoS (i:=0) (j:=6) (o:=_) (o':=_) rfl rfl (by kernel_rfl) (fun KC hKC => ?_) (fun KC hKC => ?_)
                · refine step_build0 rfl rfl ?_
                  have bA:Below D.heap.size D (D.alloc (.cells #[] 66)):=(Below.refl _ _).alloc (Nat.le_refl _) _;refine hKC _ _ (range_below rg9 bA hpD) ?_;clear hKC KC
                  try simp only [Act.put,SL]
                  have VL:=View.lit0 (E:=layRec) (t:=66) (fun i => x0 (l.getD i 0)) co D hi;have zA1:D.heap.size < (D.alloc (.cells #[] 66)).heap.size:=(box_new D #[] 66).lt;obtain ⟨D1,hD1⟩:∃ x,x = D.alloc (.cells #[] 66):=⟨_,rfl⟩;rw [← hD1] at bA VL zA1 ⊢;clear hD1;refine wpAnyM_twoS (i:=4) (j:=6) (o:=_) (o':=_) rfl rfl (by kernel_rfl) (fun KC hKC => ?_) (fun KC hKC => ?_)
                  · skip
                    obtain ⟨v4,w4,cv4,runv4,V4,bw4⟩:=ins_up (lo:=lo) HUS.out hUz hAU bA hiD (by omega) VL;refine step_run2 rfl (.tmp 51) (.tmp 54) rfl (by simp [Act.eval,Act.put]) (by simp [Act.eval,Act.put]) runv4 ?_;have b4D:=bA.trans bw4;refine hKC _ _ (range_below rg9 b4D hpD) ?_;clear hKC KC
                    try simp only [Act.put,SL]
                    refine wpAnyM_oneS (i:=6) (o:=_) rfl (by kernel_rfl) (fun KC hKC => ?_);refine step_build1R rfl (.tmp 56) rfl HRd.out (by simp [Act.eval,Act.put]) ?_;have b6:Below w4.heap.size w4 (w4.alloc (.cells cR.toArray 66)):=(Below.refl _ _).alloc (Nat.le_refl _) _;have b6D:=b4D.trans (b6.mono b4D.size);refine hKC _ _ (range_below rg9 b6D hpD) ?_;clear hKC KC
                    try simp only [Act.put,SL]
                    have V6:=V4.below b6 (by have:=b4D.size;omega);have X6:Box (w4.alloc (.cells cR.toArray 66)) w4.heap.size cR.toArray 66:=box_new _ _ _;obtain ⟨v7,w7,cv7,runv7,V7,bw7⟩:=ins_one b6D hiD (by omega) V6 X6 (layRec.rd_below HRd.out b6D hiD);refine wpAnyM_one (i:=7) (o:=_) rfl (by kernel_rfl) (by kernel_rfl) (fun KC hKC => ?_);refine step_run2 rfl (.tmp 55) (.tmp 57) rfl (by simp [Act.eval,Act.put]) (by simp [Act.eval,Act.put]) runv7 ?_;refine hKC _ _ ?_;clear hKC KC
                    try simp only [Act.put,SL]
                    have b7D:=b6D.trans bw7;obtain ⟨v8,w8,cv8,runv8,V8,bw8⟩:=ins_rest HFS.out hFz hAF b7D hiD (by omega) V7;refine wpAnyM_one (i:=11) (o:=_) rfl (by kernel_rfl) (by kernel_rfl) (fun KC hKC => ?_);refine step_run2 rfl (.tmp 58) (.tmp 61) rfl (by simp [Act.eval,Act.put]) (by simp [Act.eval,Act.put]) runv8 ?_;refine hKC _ _ ?_;clear hKC KC
                    try simp only [Act.put,SL]
                    refine wpAnyM_pureL (i:=12) (oi:=_) (v:=?_) rfl (by kernel_rfl) (fun _ _ _ h => h) (Or.inl ⟨by kernel_rfl,?_⟩) ?_
                    rotate_left
                    · intro w' hSw;go_simp;try with_reducible rfl
                    try simp only [Act.put,SL]
                    refine wpAnyM_done (by kernel_rfl) ?_ _
                    have HV8:Hid (View layRec 66 w8 D.heap.size hi v8 (l.take at_ ++ M :: l.drop at_).length (fun i => x0 ((l.take at_ ++ M :: l.drop at_).getD i 0)) cv8):=by
                      show View _ _ _ _ _ _ _ _ _
                      rw [ins_len l M at_ hatL,← HN.out];exact V8.congr (fun i _ => ins_getD x0 l M at_ hatL i)
                    have HB8:Hid (Below w.heap.size w w8):=HBD.out.trans ((b7D.trans bw8).mono (by omega));have z8:D.heap.size ≤ w8.heap.size:=(b7D.trans bw8).size
                    have HLn:Hid ((l.take at_ ++ M :: l.drop at_).length ≤ i + 1):=by
                      show (l.take at_ ++ M :: l.drop at_).length ≤ i + 1
                      rw [ins_len l M at_ hatL,← HN.out];omega
                    clear V8 V7 bw7 bw8 b7D hHeld runv7 runv8 hUr hFr hUz hFz hAU hAF rg9 HUS HFS HRd HBD;go_wp2
                    go_roundw
                    case rel => exact ⟨i + 1,D.heap.size,l.take at_ ++ M :: l.drop at_,cv8,by omega,by go_num,by omega,z8,by rw [← HMM.out];exact HCN.out,HLn.out,HV8.out,HB8.out⟩
                    case measure => simp [intOf];omega
                  · refine step_build1R rfl (.tmp 56) rfl HRd.out (by simp [Act.eval,Act.put]) ?_
                    have b6:Below D1.heap.size D1 (D1.alloc (.cells cR.toArray 66)):=(Below.refl _ _).alloc (Nat.le_refl _) _;have b6D:=bA.trans (b6.mono bA.size);refine hKC _ _ (range_below rg9 b6D hpD) ?_;clear hKC KC
                    try simp only [Act.put,SL]
                    have VL6:=VL.below b6 (by have:=bA.size;omega);have X6:Box (D1.alloc (.cells cR.toArray 66)) D1.heap.size cR.toArray 66:=box_new _ _ _;have z6:D1.heap.size < (D1.alloc (.cells cR.toArray 66)).heap.size:=X6.lt;have zA:=bA.size;obtain ⟨D2,hD2⟩:∃ x,x = D1.alloc (.cells cR.toArray 66):=⟨_,rfl⟩;rw [← hD2] at b6 b6D VL6 X6 z6 ⊢;clear hD2;have XK:=X6;obtain ⟨v4,w4,cv4,runv4,⟨V4,X4⟩,bw4⟩:=ins_up4 HUS.out hUz hAU b6D hiD (by omega) VL6 X6 (fun h => by simp [Value.ownBlock] at h;omega);refine wpAnyM_oneS (i:=4) (o:=_) rfl (by kernel_rfl) (fun KC hKC => ?_);refine step_run2 rfl (.tmp 51) (.tmp 54) rfl (by simp [Act.eval,Act.put]) (by simp [Act.eval,Act.put]) runv4 ?_;have b4D:=b6D.trans bw4;refine hKC _ _ (range_below rg9 b4D hpD) ?_;clear hKC KC
                    try simp only [Act.put,SL]
                    obtain ⟨v7,w7,cv7,runv7,V7,bw7⟩:=ins_one b4D hiD (by omega) V4 X4 (layRec.rd_below HRd.out b4D hiD);refine wpAnyM_one (i:=7) (o:=_) rfl (by kernel_rfl) (by kernel_rfl) (fun KC hKC => ?_);refine step_run2 rfl (.tmp 55) (.tmp 57) rfl (by simp [Act.eval,Act.put]) (by simp [Act.eval,Act.put]) runv7 ?_;refine hKC _ _ ?_;clear hKC KC
                    try simp only [Act.put,SL]
                    have b7D:=b4D.trans bw7;obtain ⟨v8,w8,cv8,runv8,V8,bw8⟩:=ins_rest HFS.out hFz hAF b7D hiD (by omega) V7;refine wpAnyM_one (i:=11) (o:=_) rfl (by kernel_rfl) (by kernel_rfl) (fun KC hKC => ?_);refine step_run2 rfl (.tmp 58) (.tmp 61) rfl (by simp [Act.eval,Act.put]) (by simp [Act.eval,Act.put]) runv8 ?_;refine hKC _ _ ?_;clear hKC KC
                    try simp only [Act.put,SL]
                    refine wpAnyM_pureL (i:=12) (oi:=_) (v:=?_) rfl (by kernel_rfl) (fun _ _ _ h => h) (Or.inl ⟨by kernel_rfl,?_⟩) ?_
                    rotate_left
                    · intro w' hSw;go_simp;try with_reducible rfl
                    try simp only [Act.put,SL]
                    refine wpAnyM_done (by kernel_rfl) ?_ _
                    have HV8:Hid (View layRec 66 w8 D.heap.size hi v8 (l.take at_ ++ M :: l.drop at_).length (fun i => x0 ((l.take at_ ++ M :: l.drop at_).getD i 0)) cv8):=by
                      show View _ _ _ _ _ _ _ _ _
                      rw [ins_len l M at_ hatL,← HN.out];exact V8.congr (fun i _ => ins_getD x0 l M at_ hatL i)
                    have HB8:Hid (Below w.heap.size w w8):=HBD.out.trans ((b7D.trans bw8).mono (by omega));have z8:D.heap.size ≤ w8.heap.size:=(b7D.trans bw8).size
                    have HLn:Hid ((l.take at_ ++ M :: l.drop at_).length ≤ i + 1):=by
                      show (l.take at_ ++ M :: l.drop at_).length ≤ i + 1
                      rw [ins_len l M at_ hatL,← HN.out];omega
                    clear V8 V7 bw7 bw8 b7D hHeld runv7 runv8 hUr hFr hUz hFz hAU hAF rg9 HUS HFS HRd HBD;go_wp2
                    go_roundw
                    case rel => exact ⟨i + 1,D.heap.size,l.take at_ ++ M :: l.drop at_,cv8,by omega,by go_num,by omega,z8,by rw [← HMM.out];exact HCN.out,HLn.out,HV8.out,HB8.out⟩
                    case measure => simp [intOf];omega
                · refine step_build1R rfl (.tmp 56) rfl HRd.out (by simp [Act.eval,Act.put]) ?_
                  have bA:Below D.heap.size D (D.alloc (.cells cR.toArray 66)):=(Below.refl _ _).alloc (Nat.le_refl _) _;refine hKC _ _ (range_below rg9 bA hpD) ?_;clear hKC KC
                  try simp only [Act.put,SL]
                  have XA:Box (D.alloc (.cells cR.toArray 66)) D.heap.size cR.toArray 66:=box_new _ _ _;have zA:D.heap.size < (D.alloc (.cells cR.toArray 66)).heap.size:=XA.lt;obtain ⟨D1,hD1⟩:∃ x,x = D.alloc (.cells cR.toArray 66):=⟨_,rfl⟩;rw [← hD1] at bA XA zA ⊢;clear hD1;refine wpAnyM_oneS (i:=0) (o:=_) rfl (by kernel_rfl) (fun KC hKC => ?_);refine step_build0 rfl rfl ?_;have b6:Below D1.heap.size D1 (D1.alloc (.cells #[] 66)):=(Below.refl _ _).alloc (Nat.le_refl _) _;have b6D:=bA.trans (b6.mono bA.size);refine hKC _ _ (range_below rg9 b6D hpD) ?_;clear hKC KC
                  try simp only [Act.put,SL]
                  have VL:=(View.lit0 (E:=layRec) (t:=66) (fun i => x0 (l.getD i 0)) co D1 hi).weakL (lo':=D.heap.size) (by omega);have X6:=XA.below b6 zA;obtain ⟨D2,hD2⟩:∃ x,x = D1.alloc (.cells #[] 66):=⟨_,rfl⟩;rw [← hD2] at b6 b6D VL X6 ⊢;clear hD2;obtain ⟨v4,w4,cv4,runv4,⟨V4,X4⟩,bw4⟩:=ins_up4 HUS.out hUz hAU b6D hiD (by omega) VL X6 (fun h => by simp [Value.ownBlock] at h;omega);refine wpAnyM_oneS (i:=4) (o:=_) rfl (by kernel_rfl) (fun KC hKC => ?_);refine step_run2 rfl (.tmp 51) (.tmp 54) rfl (by simp [Act.eval,Act.put]) (by simp [Act.eval,Act.put]) runv4 ?_;have b4D:=b6D.trans bw4;refine hKC _ _ (range_below rg9 b4D hpD) ?_;clear hKC KC
                  try simp only [Act.put,SL]
                  obtain ⟨v7,w7,cv7,runv7,V7,bw7⟩:=ins_one b4D hiD (by omega) V4 X4 (layRec.rd_below HRd.out b4D hiD);refine wpAnyM_one (i:=7) (o:=_) rfl (by kernel_rfl) (by kernel_rfl) (fun KC hKC => ?_);refine step_run2 rfl (.tmp 55) (.tmp 57) rfl (by simp [Act.eval,Act.put]) (by simp [Act.eval,Act.put]) runv7 ?_;refine hKC _ _ ?_;clear hKC KC
                  try simp only [Act.put,SL]
                  have b7D:=b4D.trans bw7;obtain ⟨v8,w8,cv8,runv8,V8,bw8⟩:=ins_rest HFS.out hFz hAF b7D hiD (by omega) V7;refine wpAnyM_one (i:=11) (o:=_) rfl (by kernel_rfl) (by kernel_rfl) (fun KC hKC => ?_);refine step_run2 rfl (.tmp 58) (.tmp 61) rfl (by simp [Act.eval,Act.put]) (by simp [Act.eval,Act.put]) runv8 ?_;refine hKC _ _ ?_;clear hKC KC
                  try simp only [Act.put,SL]
                  refine wpAnyM_pureL (i:=12) (oi:=_) (v:=?_) rfl (by kernel_rfl) (fun _ _ _ h => h) (Or.inl ⟨by kernel_rfl,?_⟩) ?_
                  rotate_left
                  · intro w' hSw;go_simp;try with_reducible rfl
                  try simp only [Act.put,SL]
                  refine wpAnyM_done (by kernel_rfl) ?_ _
                  have HV8:Hid (View layRec 66 w8 D.heap.size hi v8 (l.take at_ ++ M :: l.drop at_).length (fun i => x0 ((l.take at_ ++ M :: l.drop at_).getD i 0)) cv8):=by
                    show View _ _ _ _ _ _ _ _ _
                    rw [ins_len l M at_ hatL,← HN.out];exact V8.congr (fun i _ => ins_getD x0 l M at_ hatL i)
                  have HB8:Hid (Below w.heap.size w w8):=HBD.out.trans ((b7D.trans bw8).mono (by omega));have z8:D.heap.size ≤ w8.heap.size:=(b7D.trans bw8).size
                  have HLn:Hid ((l.take at_ ++ M :: l.drop at_).length ≤ i + 1):=by
                    show (l.take at_ ++ M :: l.drop at_).length ≤ i + 1
                    rw [ins_len l M at_ hatL,← HN.out];omega
                  clear V8 V7 bw7 bw8 b7D hHeld runv7 runv8 hUr hFr hUz hFz hAU hAF rg9 HUS HFS HRd HBD;go_wp2
                  go_roundw
                  case rel => exact ⟨i + 1,D.heap.size,l.take at_ ++ M :: l.drop at_,cv8,by omega,by go_num,by omega,z8,by rw [← HMM.out];exact HCN.out,HLn.out,HV8.out,HB8.out⟩
                  case measure => simp [intOf];omega
              · obtain ⟨A,hA⟩:∃ A,at_ = A + 1:=⟨at_ - 1,by omega⟩
                subst hA
                have hAn:A < n:=by omega
                have VD:=HVx.out.drew;obtain ⟨gO,cO',hgO⟩:=VD.form0 (by omega)
                have rgO:wx.drew.rangeAt gO (A * 9) (co A):=by rw [hgO] at VD;exact VD.range hAn
                obtain ⟨rfl,rfl⟩:ao = some ⟨gO,0,none⟩ ∧ cap = cO':=by simpa using hgO
                obtain ⟨rA,hrA⟩:∃ r,r = x0 (l.getD A 0):=⟨_,rfl⟩;have HRA:Hid (rA = x0 (l.getD A 0)):=hrA
                have q2D:wx.drew.cell? ⟨gO,A * 9 + 2,none⟩ = some (.string rA.name):=by
                  rw [hrA];obtain ⟨ao6,cap6,ao7,cap7,ao8,cap8,hce,-⟩:=Rec_rd (VD.each A hAn);exact rgO 2 _ (by rw [hce];rfl)
                have q1D:wx.drew.cell? ⟨wi.heap.size,2,none⟩ = some (.string (x0 M).name):=by
                  have:=HXx.out.cell 2;have h2:=HCE.out.2.1;exact this.trans (by simpa using h2)
                obtain ⟨t,ht⟩:∃ t,t = Op.bytesLess (x0 M).name.toList rA.name.toList:=⟨_,rfl⟩
                have HT:Hid (t = true ↔ nmL (x0 M) < nmL (x0 (l.getD A 0))):=by
                  show t = true ↔ nmL (x0 M) < nmL (x0 (l.getD A 0))
                  rw [ht,bl_eq,hrA,decide_eq_true_eq]
                clear hrA;have d1:decide (0 < A + 1) = true:=decide_eq_true (by omega);have d2:decide ((0:Int) < ((A + 1:Nat):Int)) = true:=decide_eq_true (by omega);have wP:IntKind.i64.wrap (((A + 1:Nat):Int) - 1) = (A:Int):=wrapPred (by omega)
                have wP':IntKind.i64.wrap ((A:Int) + 1 - 1) = (A:Int):=by rw [IntKind.wrap_i64];omega
                have wA:IntKind.i64.wrap (A:Int) = (A:Int):=by rw [IntKind.wrap_i64];omega
                have i3:(0:Int) ≤ (A:Int):=by omega
                have i4:(A:Int) < (n:Int):=by omega
                clear VD hgO
                go_upto_region 8 with fail
                refine wp_region_M 13 (fun w' => w'.cell? ⟨wi.heap.size,2,none⟩ = some (.string (x0 M).name) ∧ w'.cell? ⟨gO,A * 9 + 2,none⟩ = some (.string rA.name)) mixedO ⟨q1D,q2D⟩ (fun hHeld => ?_);refine wpAnyM_pure (i:=0) (oi:=_) (v:=?_) rfl (by kernel_rfl) (fun _ _ _ h => h) (Or.inl ⟨by kernel_rfl,?_⟩) (by assumption) ?_
                rotate_left
                · intro w' hSw;go_simp;try with_reducible rfl
                try simp only [Act.put,SL]
                refine wpAnyM_pure (i:=1) (oi:=_) (v:=?_) rfl (by kernel_rfl) (fun _ _ _ h => h) (Or.inl ⟨by kernel_rfl,?_⟩) (by assumption) ?_
                rotate_left
                · intro w' hSw;go_simp;try with_reducible rfl
                try simp only [Act.put,SL]
                try rw [d1]
                refine wpAnyM_pure (i:=2) (oi:=_) (v:=?_) rfl (by kernel_rfl) (fun _ _ _ h => h) (Or.inl ⟨by kernel_rfl,?_⟩) (by assumption) ?_
                rotate_left
                · intro w' hSw;go_simp;try with_reducible rfl
                try simp only [Act.put,SL]
                refine wpAnyM_pure (i:=3) (oi:=_) (v:=?_) rfl (by kernel_rfl) (fun _ _ _ h => h) (Or.inl ⟨by kernel_rfl,?_⟩) (by assumption) ?_
                rotate_left
                · intro w' hSw;go_simp;try with_reducible rfl
                try simp only [Act.put,SL]
                refine wpAnyM_takeN (i:=4) (oi:=_) (v:=?_) rfl (by kernel_rfl) (fun _ _ _ h => h) (Or.inl ⟨by kernel_rfl,?_⟩) (by assumption) ?_
                rotate_left
                · intro w' hSw
                  try dsimp only at hSw
                  obtain ⟨q1,q2⟩:=hSw;go_simp
                  try with_reducible rfl
                try simp only [Act.put,SL]
                refine wpAnyM_pure (i:=5) (oi:=_) (v:=?_) rfl (by kernel_rfl) (fun _ _ _ h => h) (Or.inl ⟨by kernel_rfl,?_⟩) (by assumption) ?_
                rotate_left
                · intro w' hSw;go_simp;try with_reducible rfl
                try simp only [Act.put,SL]
                refine wpAnyM_pure (i:=6) (oi:=_) (v:=?_) rfl (by kernel_rfl) (fun _ _ _ h => h) (Or.inl ⟨by kernel_rfl,?_⟩) (by assumption) ?_
                rotate_left
                · intro w' hSw;go_simp;try with_reducible rfl
                try simp only [Act.put,SL]
                refine wpAnyM_pure (i:=7) (oi:=_) (v:=?_) rfl (by kernel_rfl) (fun _ _ _ h => h) (Or.inl ⟨by kernel_rfl,?_⟩) (by assumption) ?_
                rotate_left
                · intro w' hSw;go_simp;try with_reducible rfl
                try simp only [Act.put,SL]
                refine wpAnyM_pure (i:=8) (oi:=_) (v:=?_) rfl (by kernel_rfl) (fun _ _ _ h => h) (Or.inl ⟨by kernel_rfl,?_⟩) (by assumption) ?_
                rotate_left
                · intro w' hSw;go_simp;try with_reducible rfl
                try simp only [Act.put,SL]
                refine wpAnyM_pure (i:=9) (oi:=_) (v:=?_) rfl (by kernel_rfl) (fun _ _ _ h => h) (Or.inl ⟨by kernel_rfl,?_⟩) (by assumption) ?_
                rotate_left
                · intro w' hSw;go_simp;try with_reducible rfl
                try simp only [Act.put,SL]
                refine wpAnyM_takeN (i:=10) (oi:=_) (v:=?_) rfl (by kernel_rfl) (fun _ _ _ h => h) (Or.inl ⟨by kernel_rfl,?_⟩) (by assumption) ?_
                rotate_left
                · intro w' hSw
                  try dsimp only at hSw
                  obtain ⟨q1,q2⟩:=hSw;go_simp
                  try with_reducible rfl
                try simp only [Act.put,SL]
                refine wpAnyM_pure (i:=11) (oi:=_) (v:=?_) rfl (by kernel_rfl) (fun _ _ _ h => h) (Or.inl ⟨by kernel_rfl,?_⟩) (by assumption) ?_
                rotate_left
                · intro w' hSw;go_simp;try with_reducible rfl
                try simp only [Act.put,SL]
                refine wpAnyM_pure (i:=12) (oi:=_) (v:=?_) rfl (by kernel_rfl) (fun _ _ _ h => h) (Or.inl ⟨by kernel_rfl,?_⟩) (by assumption) ?_
                rotate_left
                · intro w' hSw;go_simp;try with_reducible rfl
                try simp only [Act.put,SL]
                refine wpAnyM_done (by kernel_rfl) ?_ _;rw [← ht];obtain ⟨w9,hw9⟩:∃ x,x = wx.drew:=⟨_,rfl⟩;rw [← hw9] at bD ⊢;have b9:Below wx.heap.size wx w9:=bD;clear bD hw9 hHeld d1 d2 rgO q1D q2D ht
                cases t with
                | true =>
                  go_wp2
                  go_roundw
                  case rel => exact ⟨A,by omega,by go_num,fun k h1 h2 => by
                                by_cases c:k = A
                                · rw [c];exact HT.out.1 (by simp)
                                · exact HBE.out k (by omega) h2,HB5x.out.trans (b9.mono zx)⟩
                  case measure => simp [intOf]
                | false =>
                  have HS:Hid (A + 1 = 0 ∨ ¬ nmL (x0 M) < nmL (x0 (l.getD (A + 1 - 1) 0))):=.inr (fun h => absurd (HT.out.2 h) (by simp));obtain ⟨at_,hate⟩:∃ a,a = A + 1:=⟨_,rfl⟩;rw [← hate] at HS HBE hat ⊢;clear hate HT wP wP' wA hat0;have z9:wx.heap.size ≤ w9.heap.size:=b9.size;have V9:=(HVx.out.below b9 (by omega)).drew;have b9':Below wx.heap.size wx w9.drew:=b9.trans (show Below wx.heap.size w9 w9.drew from ⟨rfl,rfl,rfl,Nat.le_refl _,fun _ _ => rfl⟩);have X9:Box w9.drew wi.heap.size cR.toArray 66:=HXx.out.below b9' (by omega);have R9:layRec.rd w9.drew hi (x0 M) cR:=layRec.rd_below HRx.out b9' (by omega);have B9:Below w.heap.size w w9.drew:=HBx.out.trans (b9'.mono (by omega))
                  have rg9:w9.drew.rangeAt wi.heap.size 0 cR:=fun j v hv => by
                    have:=(X9.cell j).trans (by simpa using hv);rw [Nat.zero_add];exact this
                  obtain ⟨D,hD⟩:∃ D,D = w9.drew:=⟨_,rfl⟩;have HD:Hid (D = w9.drew):=hD;rw [← hD] at V9 X9 R9 B9 rg9
                  have zD:w9.heap.size = D.heap.size:=by rw [hD];rfl
                  clear hD b9 b9';obtain ⟨aU,cU,hUr,sU,hUz⟩:=V9.upto_ (show hi ≤ D.heap.size by omega) (al:=at_) hat;obtain ⟨aF,cF,hFr,sF,rF,hFz⟩:=V9.from_ (show hi ≤ D.heap.size by omega) (al:=at_) hat
                  have hAU:∀ b off,aU = some ⟨b,off,none⟩ → b < D.heap.size:=fun b off e => by
                    rcases V9.form2 with ⟨e3,e4⟩ | ⟨g,cp,e3,e4,hg⟩
                    · have hz:at_ = 0:=by omega
                      have:=hUr D;rw [e3,hz,run_upto0 D] at this
                      simp only [Result.ok.injEq,Value.slice.injEq,and_true] at this
                      rw [← this.1] at e
                      cases e
                    · have:=hUr D
                      rw [e3,run_upto9 g n cp at_ hat e4 D] at this
                      simp only [Result.ok.injEq,Value.slice.injEq,and_true] at this
                      rw [← this.1] at e
                      cases e
                      exact hg
                  have hAF:∀ b off,aF = some ⟨b,off,none⟩ → b < D.heap.size:=fun b off e => by
                    rcases V9.form2 with ⟨e3,e4⟩ | ⟨g,cp,e3,e4,hg⟩
                    · have hz:at_ = 0:=by omega
                      have:=hFr D;rw [e3,hz,run_from0 D] at this
                      simp only [Result.ok.injEq,Value.slice.injEq,and_true] at this
                      rw [← this.1] at e
                      cases e
                    · have:=hFr D
                      rw [e3,run_from9 g n cp at_ hat D] at this
                      simp only [Result.ok.injEq,Value.slice.injEq,and_true] at this
                      rw [← this.1] at e
                      split at e <;> cases e <;> exact hg
                  have hiD:hi ≤ D.heap.size:=by omega
                  have hpD:wi.heap.size < D.heap.size:=X9.lt
                  have hatL:at_ ≤ l.length:=by rw [← HN.out];exact hat
                  have HCN:Hid (LiveK x0 N (M + 1) (l.take at_ ++ M :: l.drop at_)):=HLK.out.ins HF.out at_ hatL (fun k h1 h2 => HBE.out k h1 (by rw [HN.out];exact h2)) HS.out;have HRd:Hid (layRec.rd D hi (x0 M) cR):=R9;have HBD:Hid (Below w.heap.size w D):=B9;have HUS:Hid (Src layRec D hi aU at_ (fun i => x0 (l.getD i 0)) co):=sU;have HFS:Hid (Src layRec D hi aF (n - at_) (fun j => x0 (l.getD (at_ + j) 0)) (fun j => co (at_ + j))):=sF;clear V9 X9 R9 B9 sU sF rF
                  go_upto_region 10 with fail
                  refine wp_region_M 7 (fun w' => w'.rangeAt wi.heap.size 0 cR) mixedO (by rw [← HD.out];exact rg9) (fun hHeld => ?_);rw [← HD.out] at hHeld ⊢;refine wpAnyM_pure (i:=1) (oi:=_) (v:=?_) rfl (by kernel_rfl) (fun _ _ _ h => h) (Or.inl ⟨by kernel_rfl,?_⟩) (by assumption) ?_
                  rotate_left
                  · intro w' hSw;go_simp;try with_reducible rfl
                  try simp only [Act.put,SL]
                  refine wpAnyM_pure (i:=2) (oi:=_) (v:=?_) rfl (by kernel_rfl) (fun _ _ _ h => h) (Or.inl ⟨by kernel_rfl,?_⟩) (by assumption) ?_
                  rotate_left
                  · intro w' hSw;go_simp;try with_reducible rfl
                  try simp only [Act.put,SL]
                  refine wpAnyM_pure (i:=3) (oi:=_) (v:=?_) rfl (by kernel_rfl) (fun _ _ _ h => h) (Or.inl ⟨by kernel_rfl,?_⟩) (by assumption) ?_
                  rotate_left
                  · intro w' hSw
                    try rw [show (Instr.slice 54 (.slice (some ⟨gO,0,none⟩) n cap) none (some (.int .i64 (at_:Int))) none).run Tryz.prog w' = _ from hUr w']
                    have hSl':=hUr w';go_simp
                    try with_reducible rfl
                  try simp only [Act.put,SL]
                  refine wpAnyM_take (i:=5) (oi:=_) (v:=.agg cR.toArray) 16 rfl (by kernel_rfl) (fun _ _ _ h => h) (yieldsIf_load_mid (by kernel_rfl) 66 (.tmp 5) rfl wi.heap.size (0) (by simp [Act.eval,Act.put]) cR _ (fun w h => h) Tryz.underlying66 rfl (info_Rec9 hcR)) (by assumption) ?_
                  try simp only [Act.put,SL]
                  refine wpAnyM_pure (i:=8) (oi:=_) (v:=?_) rfl (by kernel_rfl) (fun _ _ _ h => h) (Or.inl ⟨by kernel_rfl,?_⟩) (by assumption) ?_
                  rotate_left
                  · intro w' hSw;go_simp;try with_reducible rfl
                  try simp only [Act.put,SL]
                  refine wpAnyM_pure (i:=9) (oi:=_) (v:=?_) rfl (by kernel_rfl) (fun _ _ _ h => h) (Or.inl ⟨by kernel_rfl,?_⟩) (by assumption) ?_
                  rotate_left
                  · intro w' hSw;go_simp;try with_reducible rfl
                  try simp only [Act.put,SL]
                  refine wpAnyM_pure (i:=10) (oi:=_) (v:=?_) rfl (by kernel_rfl) (fun _ _ _ h => h) (Or.inl ⟨by kernel_rfl,?_⟩) (by assumption) ?_
                  rotate_left
                  · intro w' hSw
                    try rw [show (Instr.slice 54 (.slice (some ⟨gO,0,none⟩) n cap) (some (.int .i64 (at_:Int))) none none).run Tryz.prog w' = _ from hFr w']
                    have hSl':=hFr w';go_simp
                    try with_reducible rfl
                  try simp only [Act.put,SL]
                  refine wpAnyM_twoS (i:=0) (j:=6) (o:=_) (o':=_) rfl rfl (by kernel_rfl) (fun KC hKC => ?_) (fun KC hKC => ?_)
                  · refine step_build0 rfl rfl ?_
                    have bA:Below D.heap.size D (D.alloc (.cells #[] 66)):=(Below.refl _ _).alloc (Nat.le_refl _) _;refine hKC _ _ (range_below rg9 bA hpD) ?_;clear hKC KC
                    try simp only [Act.put,SL]
                    have VL:=View.lit0 (E:=layRec) (t:=66) (fun i => x0 (l.getD i 0)) co D hi;have zA1:D.heap.size < (D.alloc (.cells #[] 66)).heap.size:=(box_new D #[] 66).lt;obtain ⟨D1,hD1⟩:∃ x,x = D.alloc (.cells #[] 66):=⟨_,rfl⟩;rw [← hD1] at bA VL zA1 ⊢;clear hD1;refine wpAnyM_twoS (i:=4) (j:=6) (o:=_) (o':=_) rfl rfl (by kernel_rfl) (fun KC hKC => ?_) (fun KC hKC => ?_)
                    · skip
                      obtain ⟨v4,w4,cv4,runv4,V4,bw4⟩:=ins_up (lo:=lo) HUS.out hUz hAU bA hiD (by omega) VL;refine step_run2 rfl (.tmp 51) (.tmp 54) rfl (by simp [Act.eval,Act.put]) (by simp [Act.eval,Act.put]) runv4 ?_;have b4D:=bA.trans bw4;refine hKC _ _ (range_below rg9 b4D hpD) ?_;clear hKC KC
                      try simp only [Act.put,SL]
                      refine wpAnyM_oneS (i:=6) (o:=_) rfl (by kernel_rfl) (fun KC hKC => ?_);refine step_build1R rfl (.tmp 56) rfl HRd.out (by simp [Act.eval,Act.put]) ?_;have b6:Below w4.heap.size w4 (w4.alloc (.cells cR.toArray 66)):=(Below.refl _ _).alloc (Nat.le_refl _) _;have b6D:=b4D.trans (b6.mono b4D.size);refine hKC _ _ (range_below rg9 b6D hpD) ?_;clear hKC KC
                      try simp only [Act.put,SL]
                      have V6:=V4.below b6 (by have:=b4D.size;omega);have X6:Box (w4.alloc (.cells cR.toArray 66)) w4.heap.size cR.toArray 66:=box_new _ _ _;obtain ⟨v7,w7,cv7,runv7,V7,bw7⟩:=ins_one b6D hiD (by omega) V6 X6 (layRec.rd_below HRd.out b6D hiD);refine wpAnyM_one (i:=7) (o:=_) rfl (by kernel_rfl) (by kernel_rfl) (fun KC hKC => ?_);refine step_run2 rfl (.tmp 55) (.tmp 57) rfl (by simp [Act.eval,Act.put]) (by simp [Act.eval,Act.put]) runv7 ?_;refine hKC _ _ ?_;clear hKC KC
                      try simp only [Act.put,SL]
                      have b7D:=b6D.trans bw7;obtain ⟨v8,w8,cv8,runv8,V8,bw8⟩:=ins_rest HFS.out hFz hAF b7D hiD (by omega) V7;refine wpAnyM_one (i:=11) (o:=_) rfl (by kernel_rfl) (by kernel_rfl) (fun KC hKC => ?_);refine step_run2 rfl (.tmp 58) (.tmp 61) rfl (by simp [Act.eval,Act.put]) (by simp [Act.eval,Act.put]) runv8 ?_;refine hKC _ _ ?_;clear hKC KC
                      try simp only [Act.put,SL]
                      refine wpAnyM_pureL (i:=12) (oi:=_) (v:=?_) rfl (by kernel_rfl) (fun _ _ _ h => h) (Or.inl ⟨by kernel_rfl,?_⟩) ?_
                      rotate_left
                      · intro w' hSw;go_simp;try with_reducible rfl
                      try simp only [Act.put,SL]
                      refine wpAnyM_done (by kernel_rfl) ?_ _
                      have HV8:Hid (View layRec 66 w8 D.heap.size hi v8 (l.take at_ ++ M :: l.drop at_).length (fun i => x0 ((l.take at_ ++ M :: l.drop at_).getD i 0)) cv8):=by
                        show View _ _ _ _ _ _ _ _ _
                        rw [ins_len l M at_ hatL,← HN.out];exact V8.congr (fun i _ => ins_getD x0 l M at_ hatL i)
                      have HB8:Hid (Below w.heap.size w w8):=HBD.out.trans ((b7D.trans bw8).mono (by omega));have z8:D.heap.size ≤ w8.heap.size:=(b7D.trans bw8).size
                      have HLn:Hid ((l.take at_ ++ M :: l.drop at_).length ≤ i + 1):=by
                        show (l.take at_ ++ M :: l.drop at_).length ≤ i + 1
                        rw [ins_len l M at_ hatL,← HN.out];omega
                      clear V8 V7 bw7 bw8 b7D hHeld runv7 runv8 hUr hFr hUz hFz hAU hAF rg9 HUS HFS HRd HBD;go_wp2
                      go_roundw
                      case rel => exact ⟨i + 1,D.heap.size,l.take at_ ++ M :: l.drop at_,cv8,by omega,by go_num,by omega,z8,by rw [← HMM.out];exact HCN.out,HLn.out,HV8.out,HB8.out⟩
                      case measure => simp [intOf];omega
                    · refine step_build1R rfl (.tmp 56) rfl HRd.out (by simp [Act.eval,Act.put]) ?_
                      have b6:Below D1.heap.size D1 (D1.alloc (.cells cR.toArray 66)):=(Below.refl _ _).alloc (Nat.le_refl _) _;have b6D:=bA.trans (b6.mono bA.size);refine hKC _ _ (range_below rg9 b6D hpD) ?_;clear hKC KC
                      try simp only [Act.put,SL]
                      have VL6:=VL.below b6 (by have:=bA.size;omega);have X6:Box (D1.alloc (.cells cR.toArray 66)) D1.heap.size cR.toArray 66:=box_new _ _ _;have z6:D1.heap.size < (D1.alloc (.cells cR.toArray 66)).heap.size:=X6.lt;have zA:=bA.size;obtain ⟨D2,hD2⟩:∃ x,x = D1.alloc (.cells cR.toArray 66):=⟨_,rfl⟩;rw [← hD2] at b6 b6D VL6 X6 z6 ⊢;clear hD2;have XK:=X6;obtain ⟨v4,w4,cv4,runv4,⟨V4,X4⟩,bw4⟩:=ins_up4 HUS.out hUz hAU b6D hiD (by omega) VL6 X6 (fun h => by simp [Value.ownBlock] at h;omega);refine wpAnyM_oneS (i:=4) (o:=_) rfl (by kernel_rfl) (fun KC hKC => ?_);refine step_run2 rfl (.tmp 51) (.tmp 54) rfl (by simp [Act.eval,Act.put]) (by simp [Act.eval,Act.put]) runv4 ?_;have b4D:=b6D.trans bw4;refine hKC _ _ (range_below rg9 b4D hpD) ?_;clear hKC KC
                      try simp only [Act.put,SL]
                      obtain ⟨v7,w7,cv7,runv7,V7,bw7⟩:=ins_one b4D hiD (by omega) V4 X4 (layRec.rd_below HRd.out b4D hiD);refine wpAnyM_one (i:=7) (o:=_) rfl (by kernel_rfl) (by kernel_rfl) (fun KC hKC => ?_);refine step_run2 rfl (.tmp 55) (.tmp 57) rfl (by simp [Act.eval,Act.put]) (by simp [Act.eval,Act.put]) runv7 ?_;refine hKC _ _ ?_;clear hKC KC
                      try simp only [Act.put,SL]
                      have b7D:=b4D.trans bw7;obtain ⟨v8,w8,cv8,runv8,V8,bw8⟩:=ins_rest HFS.out hFz hAF b7D hiD (by omega) V7;refine wpAnyM_one (i:=11) (o:=_) rfl (by kernel_rfl) (by kernel_rfl) (fun KC hKC => ?_);refine step_run2 rfl (.tmp 58) (.tmp 61) rfl (by simp [Act.eval,Act.put]) (by simp [Act.eval,Act.put]) runv8 ?_;refine hKC _ _ ?_;clear hKC KC
                      try simp only [Act.put,SL]
                      refine wpAnyM_pureL (i:=12) (oi:=_) (v:=?_) rfl (by kernel_rfl) (fun _ _ _ h => h) (Or.inl ⟨by kernel_rfl,?_⟩) ?_
                      rotate_left
                      · intro w' hSw;go_simp;try with_reducible rfl
                      try simp only [Act.put,SL]
                      refine wpAnyM_done (by kernel_rfl) ?_ _
                      have HV8:Hid (View layRec 66 w8 D.heap.size hi v8 (l.take at_ ++ M :: l.drop at_).length (fun i => x0 ((l.take at_ ++ M :: l.drop at_).getD i 0)) cv8):=by
                        show View _ _ _ _ _ _ _ _ _
                        rw [ins_len l M at_ hatL,← HN.out];exact V8.congr (fun i _ => ins_getD x0 l M at_ hatL i)
                      have HB8:Hid (Below w.heap.size w w8):=HBD.out.trans ((b7D.trans bw8).mono (by omega));have z8:D.heap.size ≤ w8.heap.size:=(b7D.trans bw8).size
                      have HLn:Hid ((l.take at_ ++ M :: l.drop at_).length ≤ i + 1):=by
                        show (l.take at_ ++ M :: l.drop at_).length ≤ i + 1
                        rw [ins_len l M at_ hatL,← HN.out];omega
                      clear V8 V7 bw7 bw8 b7D hHeld runv7 runv8 hUr hFr hUz hFz hAU hAF rg9 HUS HFS HRd HBD;go_wp2
                      go_roundw
                      case rel => exact ⟨i + 1,D.heap.size,l.take at_ ++ M :: l.drop at_,cv8,by omega,by go_num,by omega,z8,by rw [← HMM.out];exact HCN.out,HLn.out,HV8.out,HB8.out⟩
                      case measure => simp [intOf];omega
                  · refine step_build1R rfl (.tmp 56) rfl HRd.out (by simp [Act.eval,Act.put]) ?_
                    have bA:Below D.heap.size D (D.alloc (.cells cR.toArray 66)):=(Below.refl _ _).alloc (Nat.le_refl _) _;refine hKC _ _ (range_below rg9 bA hpD) ?_;clear hKC KC
                    try simp only [Act.put,SL]
                    have XA:Box (D.alloc (.cells cR.toArray 66)) D.heap.size cR.toArray 66:=box_new _ _ _;have zA:D.heap.size < (D.alloc (.cells cR.toArray 66)).heap.size:=XA.lt;obtain ⟨D1,hD1⟩:∃ x,x = D.alloc (.cells cR.toArray 66):=⟨_,rfl⟩;rw [← hD1] at bA XA zA ⊢;clear hD1;refine wpAnyM_oneS (i:=0) (o:=_) rfl (by kernel_rfl) (fun KC hKC => ?_);refine step_build0 rfl rfl ?_;have b6:Below D1.heap.size D1 (D1.alloc (.cells #[] 66)):=(Below.refl _ _).alloc (Nat.le_refl _) _;have b6D:=bA.trans (b6.mono bA.size);refine hKC _ _ (range_below rg9 b6D hpD) ?_;clear hKC KC
                    try simp only [Act.put,SL]
                    have VL:=(View.lit0 (E:=layRec) (t:=66) (fun i => x0 (l.getD i 0)) co D1 hi).weakL (lo':=D.heap.size) (by omega);have X6:=XA.below b6 zA;obtain ⟨D2,hD2⟩:∃ x,x = D1.alloc (.cells #[] 66):=⟨_,rfl⟩;rw [← hD2] at b6 b6D VL X6 ⊢;clear hD2;obtain ⟨v4,w4,cv4,runv4,⟨V4,X4⟩,bw4⟩:=ins_up4 HUS.out hUz hAU b6D hiD (by omega) VL X6 (fun h => by simp [Value.ownBlock] at h;omega);refine wpAnyM_oneS (i:=4) (o:=_) rfl (by kernel_rfl) (fun KC hKC => ?_);refine step_run2 rfl (.tmp 51) (.tmp 54) rfl (by simp [Act.eval,Act.put]) (by simp [Act.eval,Act.put]) runv4 ?_;have b4D:=b6D.trans bw4;refine hKC _ _ (range_below rg9 b4D hpD) ?_;clear hKC KC
                    try simp only [Act.put,SL]
                    obtain ⟨v7,w7,cv7,runv7,V7,bw7⟩:=ins_one b4D hiD (by omega) V4 X4 (layRec.rd_below HRd.out b4D hiD);refine wpAnyM_one (i:=7) (o:=_) rfl (by kernel_rfl) (by kernel_rfl) (fun KC hKC => ?_);refine step_run2 rfl (.tmp 55) (.tmp 57) rfl (by simp [Act.eval,Act.put]) (by simp [Act.eval,Act.put]) runv7 ?_;refine hKC _ _ ?_;clear hKC KC
                    try simp only [Act.put,SL]
                    have b7D:=b4D.trans bw7;obtain ⟨v8,w8,cv8,runv8,V8,bw8⟩:=ins_rest HFS.out hFz hAF b7D hiD (by omega) V7;refine wpAnyM_one (i:=11) (o:=_) rfl (by kernel_rfl) (by kernel_rfl) (fun KC hKC => ?_);refine step_run2 rfl (.tmp 58) (.tmp 61) rfl (by simp [Act.eval,Act.put]) (by simp [Act.eval,Act.put]) runv8 ?_;refine hKC _ _ ?_;clear hKC KC
                    try simp only [Act.put,SL]
                    refine wpAnyM_pureL (i:=12) (oi:=_) (v:=?_) rfl (by kernel_rfl) (fun _ _ _ h => h) (Or.inl ⟨by kernel_rfl,?_⟩) ?_
                    rotate_left
                    · intro w' hSw;go_simp;try with_reducible rfl
                    try simp only [Act.put,SL]
                    refine wpAnyM_done (by kernel_rfl) ?_ _
                    have HV8:Hid (View layRec 66 w8 D.heap.size hi v8 (l.take at_ ++ M :: l.drop at_).length (fun i => x0 ((l.take at_ ++ M :: l.drop at_).getD i 0)) cv8):=by
                      show View _ _ _ _ _ _ _ _ _
                      rw [ins_len l M at_ hatL,← HN.out];exact V8.congr (fun i _ => ins_getD x0 l M at_ hatL i)
                    have HB8:Hid (Below w.heap.size w w8):=HBD.out.trans ((b7D.trans bw8).mono (by omega));have z8:D.heap.size ≤ w8.heap.size:=(b7D.trans bw8).size
                    have HLn:Hid ((l.take at_ ++ M :: l.drop at_).length ≤ i + 1):=by
                      show (l.take at_ ++ M :: l.drop at_).length ≤ i + 1
                      rw [ins_len l M at_ hatL,← HN.out];omega
                    clear V8 V7 bw7 bw8 b7D hHeld runv7 runv8 hUr hFr hUz hFz hAU hAF rg9 HUS HFS HRd HBD;go_wp2
                    go_roundw
                    case rel => exact ⟨i + 1,D.heap.size,l.take at_ ++ M :: l.drop at_,cv8,by omega,by go_num,by omega,z8,by rw [← HMM.out];exact HCN.out,HLn.out,HV8.out,HB8.out⟩
                    case measure => simp [intOf];omega
        · obtain rfl:i = N:=by omega
          clear hrs hlt2;have HLV:Hid (Live x0 i l):=HLK.out.done;go_wp2;go_ret;exact ⟨_,l,co,lo,rfl,HLV.out,hlo,by rw [← HN.out];exact HV.out,HBW.out⟩
end Go.Proofs.YtfoidpcoiankoaaGreat
namespace Go.Proofs.YtfoidpcoiankoaaGreat
open Go.RowKit F256
theorem rec_kind {s:Nat → Int} {r:RecD} (h:RecAns s r 0):KindP s r:=by
  rcases h with ⟨_,h⟩ | ⟨_,h⟩
  · cases h
  rcases h with ⟨_,h⟩ | ⟨_,h⟩
  · cases h
  rcases h with ⟨_,h⟩ | ⟨_,h⟩
  · cases h
  rcases h with ⟨_,h⟩ | ⟨_,h⟩
  · cases h
  rcases h with ⟨_,h⟩ | ⟨h,_⟩
  · cases h
  · exact h
theorem recT_kind {d:WorldD} (hok:OkWorld d) {i:Nat} (hi:i < lenT d.tapes.2 2):KindP d.shape (recT d.tapes.2 2 i):=by
  have h2:d.tapes.1 = 2:=hok.form.2.2;have key:∀ t j,t < 2 → j < (d.tapes.2 t).recs.1 → KindP d.shape ((d.tapes.2 t).recs.2 j):=fun t j ht hj => rec_kind (hok.recs t (by omega) j hj)
  have e1:lenT d.tapes.2 1 = (d.tapes.2 0).recs.1:=by simp [lenT]
  have e2:lenT d.tapes.2 2 = (d.tapes.2 0).recs.1 + (d.tapes.2 1).recs.1:=by simp [lenT]
  rw [e2] at hi
  show KindP d.shape (cat2 (recT d.tapes.2 1) (lenT d.tapes.2 1) (d.tapes.2 1).recs.2 i)
  unfold cat2
  split
  · rename_i c
    rw [e1] at c
    show KindP d.shape (cat2 (recT d.tapes.2 0) (lenT d.tapes.2 0) (d.tapes.2 0).recs.2 i)
    unfold cat2;rw [if_neg (by show ¬ i < 0;omega)];exact key 0 (i - 0) (by omega) (by omega)
  · rename_i c
    rw [e1] at c ⊢;exact key 1 _ (by omega) (by omega)
theorem item_len {s:Nat → Int} {r:RecD} (h:KindP s r) (hk:r.kind = 1):r.length < 0 ↔ r.length = -1:=by
  rcases h with ⟨_,h⟩ | ⟨h,_⟩ | ⟨h,_⟩ | ⟨h,_⟩
  · rcases h with ⟨h,_⟩ | ⟨_,h,_⟩ <;> omega
  · omega
  · omega
  · omega
theorem l_kind {d:WorldD} (hok:OkWorld d) {l:List Nat} (hCt:Cnt (recT d.tapes.2 2) (lenT d.tapes.2 2) l) {i:Nat} (hi:i < l.length):KindP d.shape (recT d.tapes.2 2 (l.getD i 0)) :=
  recT_kind hok ((hCt.mem _).1 (by rw [getD_at hi];exact List.getElem_mem hi)).1
end Go.Proofs.YtfoidpcoiankoaaGreat