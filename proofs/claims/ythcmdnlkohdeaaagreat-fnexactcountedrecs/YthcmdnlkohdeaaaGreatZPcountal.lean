/- Walks of the specification's WorldFault where the form of a world has a fault. -/
import Derived.Test.YthcmdnlkohdeaaaGreatZPcountak
set_option linter.unusedVariables false
set_option linter.unusedSimpArgs false
set_option maxHeartbeats 16000000
namespace Go.Proofs.YthcmdnlkohdeaaaGreat
open Go.RowKit F256
set_option maxRecDepth 20000 in
theorem zgL (d:WorldD) (cs:List Value) (hi:Nat) (w:World) (h:zan.rd w hi d cs) (hhi:hi≤w.heap.size) (hnm:∀ t,t<d.tapes.1→∀ i,i<(d.tapes.2 t).recs.1→((d.tapes.2 t).recs.2 i).name.size≤1048576) (hok':zaq d.shape) (hsel:¬ (zcA d∧zbN d.on.1 d.on.2 (d.shape 0+d.shape 1-1))) :
 Calls Tryz.prog 23 #[.agg cs.toArray] w (zcK d w):=by
 obtain ⟨ao1,cap1,ao2,cap2,ao3,cap3,rfl,g1,g2,g3,-⟩:=za2 h;have HRD:=hid h;obtain ⟨v2,e2,⟨h2,hcp2⟩,_⟩:=g2
 cases e2
 have H2:=hid h2;have HCP:=hid hcp2;have hm2:=h2.mx;obtain ⟨_,_,e3,hm3,hc3⟩:=g3
 cases e3
 unfold maxLen at hm2 hm3;have HC3:=hid hc3;have HNM:=hid hnm;clear h h2 hcp2 hc3 g1 hnm;have T0:=zaJ w (rwW d ao1 cap1 ao2 cap2 ao3 cap3).toArray 38;have CSh:=fun w'=>zbo d.shape w';unfold zae at CSh
 go_enter Tryz.func23,Tryz.ntmps23
 go_wp2_with fail
 refine (CSh _).mono ?_;rintro e w1 ⟨x,rfl,hx,b1⟩;have T1:One w w1 (rwW d ao1 cap1 ao2 cap2 ao3 cap3).toArray 38:=T0.call b1;have HT1:=hid T1;clear b1 T0 CSh;have x1_0:w1.cell? ⟨w.heap.size,0,none⟩=some (.int .i64 (d.shape 0)):=T1.b1.cell 0;have kx1_0:=cell_regrown x1_0;have x1_1:w1.cell? ⟨w.heap.size,1,none⟩=some (.int .i64 (d.shape 1)):=T1.b1.cell 1;have kx1_1:=cell_regrown x1_1;have x1_2:w1.cell? ⟨w.heap.size,2,none⟩=some (.int .i64 (d.shape 2)):=T1.b1.cell 2;have kx1_2:=cell_regrown x1_2;have x1_3:w1.cell? ⟨w.heap.size,3,none⟩=some (.int .i64 (d.shape 3)):=T1.b1.cell 3;have kx1_3:=cell_regrown x1_3;have x1_4:w1.cell? ⟨w.heap.size,4,none⟩=some (.int .i64 (d.shape 4)):=T1.b1.cell 4;have kx1_4:=cell_regrown x1_4;have x1_5:w1.cell? ⟨w.heap.size,5,none⟩=some (.int .i64 (d.shape 5)):=T1.b1.cell 5;have kx1_5:=cell_regrown x1_5;have x1_6:w1.cell? ⟨w.heap.size,6,none⟩=some (.int .i64 (d.shape 6)):=T1.b1.cell 6;have kx1_6:=cell_regrown x1_6;have x1_7:w1.cell? ⟨w.heap.size,7,none⟩=some (.int .i64 (d.shape 7)):=T1.b1.cell 7;have kx1_7:=cell_regrown x1_7;have x1_8:w1.cell? ⟨w.heap.size,8,none⟩=some (.int .i64 (d.shape 8)):=T1.b1.cell 8;have kx1_8:=cell_regrown x1_8;have x1_9:w1.cell? ⟨w.heap.size,9,none⟩=some (.slice ao1 d.groups.1 cap1):=T1.b1.cell 9;have kx1_9:=cell_regrown x1_9;have x1_10:w1.cell? ⟨w.heap.size,10,none⟩=some (.slice ao2 d.on.1 cap2):=T1.b1.cell 10;have kx1_10:=cell_regrown x1_10;have x1_11:w1.cell? ⟨w.heap.size,11,none⟩=some (.slice ao3 d.tapes.1 cap3):=T1.b1.cell 11;have kx1_11:=cell_regrown x1_11;have x1_12:w1.cell? ⟨w.heap.size,12,none⟩=some (.int .i64 d.writes):=T1.b1.cell 12;have kx1_12:=cell_regrown x1_12;have x1_13:w1.cell? ⟨w.heap.size,13,none⟩=some (.int .i64 d.stop):=T1.b1.cell 13;have kx1_13:=cell_regrown x1_13;have x1_14:w1.cell? ⟨w.heap.size,14,none⟩=some (.bool d.down):=T1.b1.cell 14;have kx1_14:=cell_regrown x1_14;clear T1
 rcases hx with ⟨rfl,hno⟩ | ⟨rfl,hok⟩
 ·go_wp2
  go_ret;exact wldP rfl (Stair.fall hno) HT1.out.bel
 have HOK:=hid hok
 have hsb:1≤d.shape 0∧d.shape 0≤4∧0≤d.shape 1∧d.shape 1≤2:=by
  obtain ⟨h1,_⟩:=hok;unfold Shp3 at h1;omega
 clear hok;obtain ⟨t1,h1⟩:=exB (zcA d);obtain ⟨t2,h2⟩:=exB (zbN d.on.1 d.on.2 (d.shape 0+d.shape 1-1));obtain ⟨b3',h3⟩:∃ b,decide (d.shape 5<(d.on.1:Int))=b:=⟨_,rfl⟩;obtain ⟨g',h4⟩:∃ b,decide (0<d.on.1)=b:=⟨_,rfl⟩;obtain ⟨b5',h5⟩:∃ b,((d.tapes.1:Int) != 2)=b:=⟨_,rfl⟩;have c1:=zaB (W:=w1) (fun w' hw'=>zbp (zcw d HOK.out _ hi w' (zan.rd_below (zan.rd_below HRD.out HT1.out.bel hhi) hw' (Nat.le_trans hhi HT1.out.bel.size)) (Nat.le_trans hhi (Nat.le_trans HT1.out.bel.size hw'.size))) h1);have c2:=zaB (W:=w1) (fun w' hw'=>zbp (zb4 _ d.on.1 d.on.2 hi (d.shape 0+d.shape 1-1) w' ((H2.out.below HT1.out.bel hhi).below hw' (Nat.le_trans hhi HT1.out.bel.size)) HCP.out (Nat.le_trans hhi (Nat.le_trans HT1.out.bel.size hw'.size))) h2);have cA:=zaB (W:=w1) (fun w' _=>zbO d.shape HOK.out w');unfold zae at cA
 have wsA:IntKind.i64.wrap (d.shape 0+d.shape 1-1)=d.shape 0+d.shape 1-1:=by rw [IntKind.wrap_i64];omega
 have h4':decide (0<(d.on.1:Int))=g':=by rw [← h4];simp
 obtain ⟨dn,hdn⟩:∃ x,x=d.down:=⟨_,rfl⟩
 have HE:Hid (zco d↔(t1=true∧t2=true∧b3'=false∧(dn=true→g'=false)∧b5'=false)):=by
  show zco d↔_
  have e3:(decide (d.shape 5<(d.on.1:Int))=false)↔(d.on.1:Int)≤d.shape 5:=by simp
  have e4:(decide (0<d.on.1)=false)↔d.on.1=0:=by simp
  have e5:(((d.tapes.1:Int) != 2)=false)↔d.tapes.1=2:=by simp;omega
  rw [h1,h2,← h3,← h4,← h5,hdn,e3,e4,e5];unfold zco OnP
  constructor
  ·rintro ⟨a,⟨b,c,e⟩,f⟩
   exact ⟨a,b,c,e,f⟩
  ·rintro ⟨a,b,c,e,f⟩
   exact ⟨a,⟨b,c,e⟩,f⟩
 have hst:t1=false∨(t1=true∧t2=false):=by
  clear HE c1 c2
  cases t1 with
  | false=>exact .inl rfl
  | true=>
   cases t2 with
   | false=>exact .inr ⟨rfl,rfl⟩
   | true=>exact absurd ⟨h1.1 rfl,h2.1 rfl⟩ hsel
 have HNF:Hid (¬ zco d):=fun h=>by
  obtain ⟨a,⟨b,c,e⟩,f⟩:=h;exact hsel ⟨a,b⟩
 rw [← hdn] at x1_14 kx1_14 c1;clear h1 h2 hsel hok'
 go_upto_region 4 with fail
 clear hdn
 rcases hst with rfl | ⟨rfl,rfl⟩
 all_goals
  refine WQ.region (by kernel_rfl) (by kernel_rfl) ?_
  repeat (first | (apply WQ.free;(case hw=>rfl);intro K hK;go_simp;first | (apply hK;clear hK K) | (apply Exists.intro;apply And.intro;(case left=>intro p;(first | (go_at_call 52;exact c1 _ _) | (go_at_call 53;exact c2 _ _) | (go_at_call 54;exact cA _ _)));apply hK;clear hK K)) | (apply WQ.skip;(case hw=>rfl);intro K hK;go_simp;apply hK;clear hK K) | (apply WQ.want;(case hw=>rfl);intro K hK;go_simp;first | (apply hK;clear hK K) | (apply Exists.intro;apply And.intro;(case left=>intro p;(first | (go_at_call 52;exact c1 _ _) | (go_at_call 53;exact c2 _ _) | (go_at_call 54;exact cA _ _)));apply hK;clear hK K)))
  refine WQ.nil ?_;intro w2 hw2;have HB2:Hid (Below w.heap.size w w2):=(HT1.out.call (zaM hw2)).bel;clear hw2;go_wp2;go_ret;exact wldP rfl (Stair.pass HOK.out (Stair.fall HNF.out)) HB2.out
set_option maxRecDepth 20000 in
theorem zgM (d:WorldD) (cs:List Value) (hi:Nat) (w:World) (h:zan.rd w hi d cs) (hhi:hi≤w.heap.size) (hnm:∀ t,t<d.tapes.1→∀ i,i<(d.tapes.2 t).recs.1→((d.tapes.2 t).recs.2 i).name.size≤1048576) (hok':zaq d.shape) (hsel:zcA d∧zbN d.on.1 d.on.2 (d.shape 0+d.shape 1-1)∧¬ ((d.on.1:Int)≤d.shape 5∧(d.down=true→d.on.1=0))) :
 Calls Tryz.prog 23 #[.agg cs.toArray] w (zcK d w):=by
 obtain ⟨ao1,cap1,ao2,cap2,ao3,cap3,rfl,g1,g2,g3,-⟩:=za2 h;have HRD:=hid h;obtain ⟨v2,e2,⟨h2,hcp2⟩,_⟩:=g2
 cases e2
 have H2:=hid h2;have HCP:=hid hcp2;have hm2:=h2.mx;obtain ⟨_,_,e3,hm3,hc3⟩:=g3
 cases e3
 unfold maxLen at hm2 hm3;have HC3:=hid hc3;have HNM:=hid hnm;clear h h2 hcp2 hc3 g1 hnm;have T0:=zaJ w (rwW d ao1 cap1 ao2 cap2 ao3 cap3).toArray 38;have CSh:=fun w'=>zbo d.shape w';unfold zae at CSh
 go_enter Tryz.func23,Tryz.ntmps23
 go_wp2_with fail
 refine (CSh _).mono ?_;rintro e w1 ⟨x,rfl,hx,b1⟩;have T1:One w w1 (rwW d ao1 cap1 ao2 cap2 ao3 cap3).toArray 38:=T0.call b1;have HT1:=hid T1;clear b1 T0 CSh;have x1_0:w1.cell? ⟨w.heap.size,0,none⟩=some (.int .i64 (d.shape 0)):=T1.b1.cell 0;have kx1_0:=cell_regrown x1_0;have x1_1:w1.cell? ⟨w.heap.size,1,none⟩=some (.int .i64 (d.shape 1)):=T1.b1.cell 1;have kx1_1:=cell_regrown x1_1;have x1_2:w1.cell? ⟨w.heap.size,2,none⟩=some (.int .i64 (d.shape 2)):=T1.b1.cell 2;have kx1_2:=cell_regrown x1_2;have x1_3:w1.cell? ⟨w.heap.size,3,none⟩=some (.int .i64 (d.shape 3)):=T1.b1.cell 3;have kx1_3:=cell_regrown x1_3;have x1_4:w1.cell? ⟨w.heap.size,4,none⟩=some (.int .i64 (d.shape 4)):=T1.b1.cell 4;have kx1_4:=cell_regrown x1_4;have x1_5:w1.cell? ⟨w.heap.size,5,none⟩=some (.int .i64 (d.shape 5)):=T1.b1.cell 5;have kx1_5:=cell_regrown x1_5;have x1_6:w1.cell? ⟨w.heap.size,6,none⟩=some (.int .i64 (d.shape 6)):=T1.b1.cell 6;have kx1_6:=cell_regrown x1_6;have x1_7:w1.cell? ⟨w.heap.size,7,none⟩=some (.int .i64 (d.shape 7)):=T1.b1.cell 7;have kx1_7:=cell_regrown x1_7;have x1_8:w1.cell? ⟨w.heap.size,8,none⟩=some (.int .i64 (d.shape 8)):=T1.b1.cell 8;have kx1_8:=cell_regrown x1_8;have x1_9:w1.cell? ⟨w.heap.size,9,none⟩=some (.slice ao1 d.groups.1 cap1):=T1.b1.cell 9;have kx1_9:=cell_regrown x1_9;have x1_10:w1.cell? ⟨w.heap.size,10,none⟩=some (.slice ao2 d.on.1 cap2):=T1.b1.cell 10;have kx1_10:=cell_regrown x1_10;have x1_11:w1.cell? ⟨w.heap.size,11,none⟩=some (.slice ao3 d.tapes.1 cap3):=T1.b1.cell 11;have kx1_11:=cell_regrown x1_11;have x1_12:w1.cell? ⟨w.heap.size,12,none⟩=some (.int .i64 d.writes):=T1.b1.cell 12;have kx1_12:=cell_regrown x1_12;have x1_13:w1.cell? ⟨w.heap.size,13,none⟩=some (.int .i64 d.stop):=T1.b1.cell 13;have kx1_13:=cell_regrown x1_13;have x1_14:w1.cell? ⟨w.heap.size,14,none⟩=some (.bool d.down):=T1.b1.cell 14;have kx1_14:=cell_regrown x1_14;clear T1
 rcases hx with ⟨rfl,hno⟩ | ⟨rfl,hok⟩
 ·go_wp2
  go_ret;exact wldP rfl (Stair.fall hno) HT1.out.bel
 have HOK:=hid hok
 have hsb:1≤d.shape 0∧d.shape 0≤4∧0≤d.shape 1∧d.shape 1≤2:=by
  obtain ⟨h1,_⟩:=hok;unfold Shp3 at h1;omega
 clear hok;obtain ⟨t1,h1⟩:=exB (zcA d);obtain ⟨t2,h2⟩:=exB (zbN d.on.1 d.on.2 (d.shape 0+d.shape 1-1));obtain ⟨b3',h3⟩:∃ b,decide (d.shape 5<(d.on.1:Int))=b:=⟨_,rfl⟩;obtain ⟨g',h4⟩:∃ b,decide (0<d.on.1)=b:=⟨_,rfl⟩;obtain ⟨b5',h5⟩:∃ b,((d.tapes.1:Int) != 2)=b:=⟨_,rfl⟩;have c1:=zaB (W:=w1) (fun w' hw'=>zbp (zcw d HOK.out _ hi w' (zan.rd_below (zan.rd_below HRD.out HT1.out.bel hhi) hw' (Nat.le_trans hhi HT1.out.bel.size)) (Nat.le_trans hhi (Nat.le_trans HT1.out.bel.size hw'.size))) h1);have c2:=zaB (W:=w1) (fun w' hw'=>zbp (zb4 _ d.on.1 d.on.2 hi (d.shape 0+d.shape 1-1) w' ((H2.out.below HT1.out.bel hhi).below hw' (Nat.le_trans hhi HT1.out.bel.size)) HCP.out (Nat.le_trans hhi (Nat.le_trans HT1.out.bel.size hw'.size))) h2);have cA:=zaB (W:=w1) (fun w' _=>zbO d.shape HOK.out w');unfold zae at cA
 have wsA:IntKind.i64.wrap (d.shape 0+d.shape 1-1)=d.shape 0+d.shape 1-1:=by rw [IntKind.wrap_i64];omega
 have h4':decide (0<(d.on.1:Int))=g':=by rw [← h4];simp
 obtain ⟨dn,hdn⟩:∃ x,x=d.down:=⟨_,rfl⟩
 have HE:Hid (zco d↔(t1=true∧t2=true∧b3'=false∧(dn=true→g'=false)∧b5'=false)):=by
  show zco d↔_
  have e3:(decide (d.shape 5<(d.on.1:Int))=false)↔(d.on.1:Int)≤d.shape 5:=by simp
  have e4:(decide (0<d.on.1)=false)↔d.on.1=0:=by simp
  have e5:(((d.tapes.1:Int) != 2)=false)↔d.tapes.1=2:=by simp;omega
  rw [h1,h2,← h3,← h4,← h5,hdn,e3,e4,e5];unfold zco OnP
  constructor
  ·rintro ⟨a,⟨b,c,e⟩,f⟩
   exact ⟨a,b,c,e,f⟩
  ·rintro ⟨a,b,c,e,f⟩
   exact ⟨a,⟨b,c,e⟩,f⟩
 have hst:(t1=true∧t2=true∧b3'=true)∨(t1=true∧t2=true∧b3'=false∧dn=true∧g'=true):=by
  clear HE c1 c2;have e1:=h1.2 hsel.1;have e2:=h2.2 hsel.2.1
  cases b3' with
  | true=>exact .inl ⟨e1,e2,rfl⟩
  | false=>
   have hc:(d.on.1:Int)≤d.shape 5:=by simpa using h3
   have hd:dn=true:=by
    cases dn with
    | true=>rfl
    | false=>exact absurd ⟨hc,fun h=>by rw [← hdn] at h;cases h⟩ hsel.2.2
   have hg:g'=true:=by
    cases g' with
    | true=>rfl
    | false=>exact absurd ⟨hc,fun _=>by simpa using h4⟩ hsel.2.2
   exact .inr ⟨e1,e2,rfl,hd,hg⟩
 have HNF:Hid (¬ zco d):=fun h=>by
  obtain ⟨a,⟨b,c,e⟩,f⟩:=h;exact hsel.2.2 ⟨c,e⟩
 rw [← hdn] at x1_14 kx1_14 c1;clear h1 h2 hsel hok'
 go_upto_region 4 with fail
 clear hdn
 rcases hst with ⟨rfl,rfl,rfl⟩ | ⟨rfl,rfl,rfl,rfl,rfl⟩
 all_goals
  refine WQ.region (by kernel_rfl) (by kernel_rfl) ?_
  repeat (first | (apply WQ.free;(case hw=>rfl);intro K hK;go_simp;first | (apply hK;clear hK K) | (apply Exists.intro;apply And.intro;(case left=>intro p;(first | (go_at_call 52;exact c1 _ _) | (go_at_call 53;exact c2 _ _) | (go_at_call 54;exact cA _ _)));apply hK;clear hK K)) | (apply WQ.skip;(case hw=>rfl);intro K hK;go_simp;apply hK;clear hK K) | (apply WQ.want;(case hw=>rfl);intro K hK;go_simp;first | (apply hK;clear hK K) | (apply Exists.intro;apply And.intro;(case left=>intro p;(first | (go_at_call 52;exact c1 _ _) | (go_at_call 53;exact c2 _ _) | (go_at_call 54;exact cA _ _)));apply hK;clear hK K)))
  refine WQ.nil ?_;intro w2 hw2;have HB2:Hid (Below w.heap.size w w2):=(HT1.out.call (zaM hw2)).bel;clear hw2;go_wp2;go_ret;exact wldP rfl (Stair.pass HOK.out (Stair.fall HNF.out)) HB2.out
set_option maxRecDepth 20000 in
theorem zgN (d:WorldD) (cs:List Value) (hi:Nat) (w:World) (h:zan.rd w hi d cs) (hhi:hi≤w.heap.size) (hnm:∀ t,t<d.tapes.1→∀ i,i<(d.tapes.2 t).recs.1→((d.tapes.2 t).recs.2 i).name.size≤1048576) (hok':zaq d.shape) (hsel:zcA d∧zbN d.on.1 d.on.2 (d.shape 0+d.shape 1-1)∧((d.on.1:Int)≤d.shape 5∧(d.down=true→d.on.1=0))∧d.tapes.1≠2) :
 Calls Tryz.prog 23 #[.agg cs.toArray] w (zcK d w):=by
 obtain ⟨ao1,cap1,ao2,cap2,ao3,cap3,rfl,g1,g2,g3,-⟩:=za2 h;have HRD:=hid h;obtain ⟨v2,e2,⟨h2,hcp2⟩,_⟩:=g2
 cases e2
 have H2:=hid h2;have HCP:=hid hcp2;have hm2:=h2.mx;obtain ⟨_,_,e3,hm3,hc3⟩:=g3
 cases e3
 unfold maxLen at hm2 hm3;have HC3:=hid hc3;have HNM:=hid hnm;clear h h2 hcp2 hc3 g1 hnm;have T0:=zaJ w (rwW d ao1 cap1 ao2 cap2 ao3 cap3).toArray 38;have CSh:=fun w'=>zbo d.shape w';unfold zae at CSh
 go_enter Tryz.func23,Tryz.ntmps23
 go_wp2_with fail
 refine (CSh _).mono ?_;rintro e w1 ⟨x,rfl,hx,b1⟩;have T1:One w w1 (rwW d ao1 cap1 ao2 cap2 ao3 cap3).toArray 38:=T0.call b1;have HT1:=hid T1;clear b1 T0 CSh;have x1_0:w1.cell? ⟨w.heap.size,0,none⟩=some (.int .i64 (d.shape 0)):=T1.b1.cell 0;have kx1_0:=cell_regrown x1_0;have x1_1:w1.cell? ⟨w.heap.size,1,none⟩=some (.int .i64 (d.shape 1)):=T1.b1.cell 1;have kx1_1:=cell_regrown x1_1;have x1_2:w1.cell? ⟨w.heap.size,2,none⟩=some (.int .i64 (d.shape 2)):=T1.b1.cell 2;have kx1_2:=cell_regrown x1_2;have x1_3:w1.cell? ⟨w.heap.size,3,none⟩=some (.int .i64 (d.shape 3)):=T1.b1.cell 3;have kx1_3:=cell_regrown x1_3;have x1_4:w1.cell? ⟨w.heap.size,4,none⟩=some (.int .i64 (d.shape 4)):=T1.b1.cell 4;have kx1_4:=cell_regrown x1_4;have x1_5:w1.cell? ⟨w.heap.size,5,none⟩=some (.int .i64 (d.shape 5)):=T1.b1.cell 5;have kx1_5:=cell_regrown x1_5;have x1_6:w1.cell? ⟨w.heap.size,6,none⟩=some (.int .i64 (d.shape 6)):=T1.b1.cell 6;have kx1_6:=cell_regrown x1_6;have x1_7:w1.cell? ⟨w.heap.size,7,none⟩=some (.int .i64 (d.shape 7)):=T1.b1.cell 7;have kx1_7:=cell_regrown x1_7;have x1_8:w1.cell? ⟨w.heap.size,8,none⟩=some (.int .i64 (d.shape 8)):=T1.b1.cell 8;have kx1_8:=cell_regrown x1_8;have x1_9:w1.cell? ⟨w.heap.size,9,none⟩=some (.slice ao1 d.groups.1 cap1):=T1.b1.cell 9;have kx1_9:=cell_regrown x1_9;have x1_10:w1.cell? ⟨w.heap.size,10,none⟩=some (.slice ao2 d.on.1 cap2):=T1.b1.cell 10;have kx1_10:=cell_regrown x1_10;have x1_11:w1.cell? ⟨w.heap.size,11,none⟩=some (.slice ao3 d.tapes.1 cap3):=T1.b1.cell 11;have kx1_11:=cell_regrown x1_11;have x1_12:w1.cell? ⟨w.heap.size,12,none⟩=some (.int .i64 d.writes):=T1.b1.cell 12;have kx1_12:=cell_regrown x1_12;have x1_13:w1.cell? ⟨w.heap.size,13,none⟩=some (.int .i64 d.stop):=T1.b1.cell 13;have kx1_13:=cell_regrown x1_13;have x1_14:w1.cell? ⟨w.heap.size,14,none⟩=some (.bool d.down):=T1.b1.cell 14;have kx1_14:=cell_regrown x1_14;clear T1
 rcases hx with ⟨rfl,hno⟩ | ⟨rfl,hok⟩
 ·go_wp2
  go_ret;exact wldP rfl (Stair.fall hno) HT1.out.bel
 have HOK:=hid hok
 have hsb:1≤d.shape 0∧d.shape 0≤4∧0≤d.shape 1∧d.shape 1≤2:=by
  obtain ⟨h1,_⟩:=hok;unfold Shp3 at h1;omega
 clear hok;obtain ⟨t1,h1⟩:=exB (zcA d);obtain ⟨t2,h2⟩:=exB (zbN d.on.1 d.on.2 (d.shape 0+d.shape 1-1));obtain ⟨b3',h3⟩:∃ b,decide (d.shape 5<(d.on.1:Int))=b:=⟨_,rfl⟩;obtain ⟨g',h4⟩:∃ b,decide (0<d.on.1)=b:=⟨_,rfl⟩;obtain ⟨b5',h5⟩:∃ b,((d.tapes.1:Int) != 2)=b:=⟨_,rfl⟩;have c1:=zaB (W:=w1) (fun w' hw'=>zbp (zcw d HOK.out _ hi w' (zan.rd_below (zan.rd_below HRD.out HT1.out.bel hhi) hw' (Nat.le_trans hhi HT1.out.bel.size)) (Nat.le_trans hhi (Nat.le_trans HT1.out.bel.size hw'.size))) h1);have c2:=zaB (W:=w1) (fun w' hw'=>zbp (zb4 _ d.on.1 d.on.2 hi (d.shape 0+d.shape 1-1) w' ((H2.out.below HT1.out.bel hhi).below hw' (Nat.le_trans hhi HT1.out.bel.size)) HCP.out (Nat.le_trans hhi (Nat.le_trans HT1.out.bel.size hw'.size))) h2);have cA:=zaB (W:=w1) (fun w' _=>zbO d.shape HOK.out w');unfold zae at cA
 have wsA:IntKind.i64.wrap (d.shape 0+d.shape 1-1)=d.shape 0+d.shape 1-1:=by rw [IntKind.wrap_i64];omega
 have h4':decide (0<(d.on.1:Int))=g':=by rw [← h4];simp
 obtain ⟨dn,hdn⟩:∃ x,x=d.down:=⟨_,rfl⟩
 have HE:Hid (zco d↔(t1=true∧t2=true∧b3'=false∧(dn=true→g'=false)∧b5'=false)):=by
  show zco d↔_
  have e3:(decide (d.shape 5<(d.on.1:Int))=false)↔(d.on.1:Int)≤d.shape 5:=by simp
  have e4:(decide (0<d.on.1)=false)↔d.on.1=0:=by simp
  have e5:(((d.tapes.1:Int) != 2)=false)↔d.tapes.1=2:=by simp;omega
  rw [h1,h2,← h3,← h4,← h5,hdn,e3,e4,e5];unfold zco OnP
  constructor
  ·rintro ⟨a,⟨b,c,e⟩,f⟩
   exact ⟨a,b,c,e,f⟩
  ·rintro ⟨a,b,c,e,f⟩
   exact ⟨a,⟨b,c,e⟩,f⟩
 have hst:(t1=true∧t2=true∧b3'=false∧dn=true∧g'=false∧b5'=true)∨(t1=true∧t2=true∧b3'=false∧dn=false∧b5'=true):=by
  clear HE c1 c2;have e1:=h1.2 hsel.1;have e2:=h2.2 hsel.2.1
  have e3:b3'=false:=by rw [← h3];simpa using hsel.2.2.1.1
  have e5:b5'=true:=by rw [← h5];have:=hsel.2.2.2;simp;omega
  cases dn with
  | false=>exact .inr ⟨e1,e2,e3,rfl,e5⟩
  | true=>exact .inl ⟨e1,e2,e3,rfl,by rw [← h4];have:=hsel.2.2.1.2 hdn.symm;simp;omega,e5⟩
 have HNF:Hid (¬ zco d):=fun h=>by
  obtain ⟨a,⟨b,c,e⟩,f⟩:=h;exact hsel.2.2.2 f
 rw [← hdn] at x1_14 kx1_14 c1;clear h1 h2 hsel hok'
 go_upto_region 4 with fail
 clear hdn
 rcases hst with ⟨rfl,rfl,rfl,rfl,rfl,rfl⟩ | ⟨rfl,rfl,rfl,rfl,rfl⟩
 all_goals
  refine WQ.region (by kernel_rfl) (by kernel_rfl) ?_
  repeat (first | (apply WQ.free;(case hw=>rfl);intro K hK;go_simp;first | (apply hK;clear hK K) | (apply Exists.intro;apply And.intro;(case left=>intro p;(first | (go_at_call 52;exact c1 _ _) | (go_at_call 53;exact c2 _ _) | (go_at_call 54;exact cA _ _)));apply hK;clear hK K)) | (apply WQ.skip;(case hw=>rfl);intro K hK;go_simp;apply hK;clear hK K) | (apply WQ.want;(case hw=>rfl);intro K hK;go_simp;first | (apply hK;clear hK K) | (apply Exists.intro;apply And.intro;(case left=>intro p;(first | (go_at_call 52;exact c1 _ _) | (go_at_call 53;exact c2 _ _) | (go_at_call 54;exact cA _ _)));apply hK;clear hK K)))
  refine WQ.nil ?_;intro w2 hw2;have HB2:Hid (Below w.heap.size w w2):=(HT1.out.call (zaM hw2)).bel;clear hw2;go_wp2;go_ret;exact wldP rfl (Stair.pass HOK.out (Stair.fall HNF.out)) HB2.out
set_option maxRecDepth 20000 in
theorem zgO (d:WorldD) (cs:List Value) (hi:Nat) (w:World) (h:zan.rd w hi d cs) (hhi:hi≤w.heap.size) (hnm:∀ t,t<d.tapes.1→∀ i,i<(d.tapes.2 t).recs.1→((d.tapes.2 t).recs.2 i).name.size≤1048576) (hok':zaq d.shape) (hsel:zco d) :
 Calls Tryz.prog 23 #[.agg cs.toArray] w (zcK d w):=by
 obtain ⟨ao1,cap1,ao2,cap2,ao3,cap3,rfl,g1,g2,g3,-⟩:=za2 h;have HRD:=hid h;obtain ⟨v2,e2,⟨h2,hcp2⟩,_⟩:=g2
 cases e2
 have H2:=hid h2;have HCP:=hid hcp2;have hm2:=h2.mx;obtain ⟨_,_,e3,hm3,hc3⟩:=g3
 cases e3
 unfold maxLen at hm2 hm3;have HC3:=hid hc3;have HNM:=hid hnm;clear h h2 hcp2 hc3 g1 hnm;have T0:=zaJ w (rwW d ao1 cap1 ao2 cap2 ao3 cap3).toArray 38;have CSh:=fun w'=>zbo d.shape w';unfold zae at CSh
 go_enter Tryz.func23,Tryz.ntmps23
 go_wp2_with fail
 refine (CSh _).mono ?_;rintro e w1 ⟨x,rfl,hx,b1⟩;have T1:One w w1 (rwW d ao1 cap1 ao2 cap2 ao3 cap3).toArray 38:=T0.call b1;have HT1:=hid T1;clear b1 T0 CSh;have x1_0:w1.cell? ⟨w.heap.size,0,none⟩=some (.int .i64 (d.shape 0)):=T1.b1.cell 0;have kx1_0:=cell_regrown x1_0;have x1_1:w1.cell? ⟨w.heap.size,1,none⟩=some (.int .i64 (d.shape 1)):=T1.b1.cell 1;have kx1_1:=cell_regrown x1_1;have x1_2:w1.cell? ⟨w.heap.size,2,none⟩=some (.int .i64 (d.shape 2)):=T1.b1.cell 2;have kx1_2:=cell_regrown x1_2;have x1_3:w1.cell? ⟨w.heap.size,3,none⟩=some (.int .i64 (d.shape 3)):=T1.b1.cell 3;have kx1_3:=cell_regrown x1_3;have x1_4:w1.cell? ⟨w.heap.size,4,none⟩=some (.int .i64 (d.shape 4)):=T1.b1.cell 4;have kx1_4:=cell_regrown x1_4;have x1_5:w1.cell? ⟨w.heap.size,5,none⟩=some (.int .i64 (d.shape 5)):=T1.b1.cell 5;have kx1_5:=cell_regrown x1_5;have x1_6:w1.cell? ⟨w.heap.size,6,none⟩=some (.int .i64 (d.shape 6)):=T1.b1.cell 6;have kx1_6:=cell_regrown x1_6;have x1_7:w1.cell? ⟨w.heap.size,7,none⟩=some (.int .i64 (d.shape 7)):=T1.b1.cell 7;have kx1_7:=cell_regrown x1_7;have x1_8:w1.cell? ⟨w.heap.size,8,none⟩=some (.int .i64 (d.shape 8)):=T1.b1.cell 8;have kx1_8:=cell_regrown x1_8;have x1_9:w1.cell? ⟨w.heap.size,9,none⟩=some (.slice ao1 d.groups.1 cap1):=T1.b1.cell 9;have kx1_9:=cell_regrown x1_9;have x1_10:w1.cell? ⟨w.heap.size,10,none⟩=some (.slice ao2 d.on.1 cap2):=T1.b1.cell 10;have kx1_10:=cell_regrown x1_10;have x1_11:w1.cell? ⟨w.heap.size,11,none⟩=some (.slice ao3 d.tapes.1 cap3):=T1.b1.cell 11;have kx1_11:=cell_regrown x1_11;have x1_12:w1.cell? ⟨w.heap.size,12,none⟩=some (.int .i64 d.writes):=T1.b1.cell 12;have kx1_12:=cell_regrown x1_12;have x1_13:w1.cell? ⟨w.heap.size,13,none⟩=some (.int .i64 d.stop):=T1.b1.cell 13;have kx1_13:=cell_regrown x1_13;have x1_14:w1.cell? ⟨w.heap.size,14,none⟩=some (.bool d.down):=T1.b1.cell 14;have kx1_14:=cell_regrown x1_14;clear T1
 rcases hx with ⟨rfl,hno⟩ | ⟨rfl,hok⟩
 ·go_wp2
  go_ret;exact wldP rfl (Stair.fall hno) HT1.out.bel
 have HOK:=hid hok
 have hsb:1≤d.shape 0∧d.shape 0≤4∧0≤d.shape 1∧d.shape 1≤2:=by
  obtain ⟨h1,_⟩:=hok;unfold Shp3 at h1;omega
 clear hok;obtain ⟨t1,h1⟩:=exB (zcA d);obtain ⟨t2,h2⟩:=exB (zbN d.on.1 d.on.2 (d.shape 0+d.shape 1-1));obtain ⟨b3',h3⟩:∃ b,decide (d.shape 5<(d.on.1:Int))=b:=⟨_,rfl⟩;obtain ⟨g',h4⟩:∃ b,decide (0<d.on.1)=b:=⟨_,rfl⟩;obtain ⟨b5',h5⟩:∃ b,((d.tapes.1:Int) != 2)=b:=⟨_,rfl⟩;have c1:=zaB (W:=w1) (fun w' hw'=>zbp (zcw d HOK.out _ hi w' (zan.rd_below (zan.rd_below HRD.out HT1.out.bel hhi) hw' (Nat.le_trans hhi HT1.out.bel.size)) (Nat.le_trans hhi (Nat.le_trans HT1.out.bel.size hw'.size))) h1);have c2:=zaB (W:=w1) (fun w' hw'=>zbp (zb4 _ d.on.1 d.on.2 hi (d.shape 0+d.shape 1-1) w' ((H2.out.below HT1.out.bel hhi).below hw' (Nat.le_trans hhi HT1.out.bel.size)) HCP.out (Nat.le_trans hhi (Nat.le_trans HT1.out.bel.size hw'.size))) h2);have cA:=zaB (W:=w1) (fun w' _=>zbO d.shape HOK.out w');unfold zae at cA
 have wsA:IntKind.i64.wrap (d.shape 0+d.shape 1-1)=d.shape 0+d.shape 1-1:=by rw [IntKind.wrap_i64];omega
 have h4':decide (0<(d.on.1:Int))=g':=by rw [← h4];simp
 obtain ⟨dn,hdn⟩:∃ x,x=d.down:=⟨_,rfl⟩
 have HE:Hid (zco d↔(t1=true∧t2=true∧b3'=false∧(dn=true→g'=false)∧b5'=false)):=by
  show zco d↔_
  have e3:(decide (d.shape 5<(d.on.1:Int))=false)↔(d.on.1:Int)≤d.shape 5:=by simp
  have e4:(decide (0<d.on.1)=false)↔d.on.1=0:=by simp
  have e5:(((d.tapes.1:Int) != 2)=false)↔d.tapes.1=2:=by simp;omega
  rw [h1,h2,← h3,← h4,← h5,hdn,e3,e4,e5];unfold zco OnP
  constructor
  ·rintro ⟨a,⟨b,c,e⟩,f⟩
   exact ⟨a,b,c,e,f⟩
  ·rintro ⟨a,b,c,e,f⟩
   exact ⟨a,⟨b,c,e⟩,f⟩
 have hst:(t1=true∧t2=true∧b3'=false∧dn=true∧g'=false∧b5'=false)∨(t1=true∧t2=true∧b3'=false∧dn=false∧b5'=false):=by
  obtain ⟨a1,a2,a3,a4,a5⟩:=HE.out.1 hsel
  cases dn with
  | true=>exact .inl ⟨a1,a2,a3,rfl,a4 rfl,a5⟩
  | false=>exact .inr ⟨a1,a2,a3,rfl,a5⟩
 have HFM:=hid hsel;have htp:d.tapes.1=2:=hsel.2.2;have HTP:=hid htp;rw [← hdn] at x1_14 kx1_14 c1;clear h1 h2 hsel hok' htp HE
 go_upto_region 4 with fail
 go_cut [51] (fun v wx=>v=.bool false∧Below w1.heap.size w1 wx)
 case first=>
  clear hdn
  rcases hst with ⟨rfl,rfl,rfl,rfl,rfl,rfl⟩ | ⟨rfl,rfl,rfl,rfl,rfl⟩
  all_goals
   refine WQ.region (by kernel_rfl) (by kernel_rfl) ?_
   repeat (first | (apply WQ.free;(case hw=>rfl);intro K hK;go_simp;first | (apply hK;clear hK K) | (apply Exists.intro;apply And.intro;(case left=>intro p;(first | (go_at_call 52;exact c1 _ _) | (go_at_call 53;exact c2 _ _) | (go_at_call 54;exact cA _ _)));apply hK;clear hK K)) | (apply WQ.skip;(case hw=>rfl);intro K hK;go_simp;apply hK;clear hK K) | (apply WQ.want;(case hw=>rfl);intro K hK;go_simp;first | (apply hK;clear hK K) | (apply Exists.intro;apply And.intro;(case left=>intro p;(first | (go_at_call 52;exact c1 _ _) | (go_at_call 53;exact c2 _ _) | (go_at_call 54;exact cA _ _)));apply hK;clear hK K)))
   refine WQ.nil ?_;intro w2 hw2;have HB2:=hid (zaM hw2);clear hw2;go_wp2
   go_meet
   exact ⟨rfl,HB2.out⟩
 case rest=>
  obtain ⟨rfl,b2⟩:=hcut;obtain ⟨w2,rfl⟩:∃ x,x=wc:=⟨_,rfl⟩;have T2:One w w2 (rwW d ao1 cap1 ao2 cap2 ao3 cap3).toArray 38:=HT1.out.call b2
  rw [hdn] at *
  clear x1_0 kx1_0 x1_1 kx1_1 x1_2 kx1_2 x1_3 kx1_3 x1_4 kx1_4 x1_5 kx1_5 x1_6 kx1_6 x1_7 kx1_7 x1_8 kx1_8 x1_9 kx1_9 x1_10 kx1_10 x1_11 kx1_11 x1_12 kx1_12 x1_13 kx1_13 x1_14 kx1_14 c1 c2 cA hst h3 h4 h4' h5 b2 HT1 wsA hdn;obtain ⟨b3,off3,he3,hb3,hel3⟩:=HC3.out (by have:=HTP.out;omega);subst he3;have HT2:=hid T2;have HEL:=hid hel3;obtain ⟨ce0,hr0,hce0⟩:=zay (t:=0) hel3 T2.bel hhi hb3 (show 0<d.tapes.1 by have:=HTP.out;omega);obtain ⟨ce1,hr1,hce1⟩:=zay (t:=0) hel3 T2.bel hhi hb3 (show 1<d.tapes.1 by have:=HTP.out;omega);obtain ⟨ap0,cp0,rfl,gt0⟩:=zbk hr0;obtain ⟨ap1,cp1,rfl,gt1⟩:=zbk hr1
  have hl0:(d.tapes.2 0).recs.1≤maxLen:=by obtain ⟨_,_,_,h,_⟩:=gt0;exact h
  have hl1:(d.tapes.2 1).recs.1≤maxLen:=by obtain ⟨_,_,_,h,_⟩:=gt1;exact h
  unfold maxLen at hl0 hl1
  have q0:w2.cell? ⟨b3,off3+1,none⟩=some (.slice ap0 (d.tapes.2 0).recs.1 cp0):=by
   have:=hce0 1 (by decide)
   simpa using this
  have q1:w2.cell? ⟨b3,off3+2+1,none⟩=some (.slice ap1 (d.tapes.2 1).recs.1 cp1):=hce1 1 (by decide);have q1':w2.cell? ⟨b3,off3+3,none⟩=some (.slice ap1 (d.tapes.2 1).recs.1 cp1):=hce1 1 (by decide);have x2_11:w2.cell? ⟨w.heap.size,11,none⟩=some (.slice (some ⟨b3,off3,none⟩) d.tapes.1 cap3):=T2.b1.cell 11;obtain ⟨f0,k0⟩:∃ b,decide (200<(d.tapes.2 0).recs.1)=b:=⟨_,rfl⟩;obtain ⟨f1,k1⟩:∃ b,decide (200<(d.tapes.2 1).recs.1)=b:=⟨_,rfl⟩
  have k0':decide (200<((d.tapes.2 0).recs.1:Int))=f0:=by rw [← k0];congr 1;apply propext;omega
  have k1':decide (200<((d.tapes.2 1).recs.1:Int))=f1:=by rw [← k1];congr 1;apply propext;omega
  clear hce0 hce1 hr0 hr1 gt0 gt1 hel3 T2
  have hge:2≤d.tapes.1:=by have:=HTP.out;omega
  have hle:d.tapes.1≤2:=by have:=HTP.out;omega
  have HF0:Hid (f0=false→(d.tapes.2 0).recs.1≤200):=fun e=>by rw [← k0] at e;simpa using e
  have HF1:Hid (f1=false→(d.tapes.2 1).recs.1≤200):=fun e=>by rw [← k1] at e;simpa using e
  have HG0:Hid (f0=true→¬ (d.tapes.2 0).recs.1≤200):=fun e=>by rw [← k0] at e;simpa using e
  have HG1:Hid (f1=true→¬ (d.tapes.2 1).recs.1≤200):=fun e=>by rw [← k1] at e;simpa using e
  cases f0 with
  | true=>
   go_wp2;go_ret;exact wldP rfl (Stair.pass HOK.out (Stair.pass HFM.out (Stair.fall (fun h=>HG0.out (by simp) (h 0 (by omega)))))) HT2.out.bel
  | false=>
  cases f1 with
  | true=>
   go_wp2;go_ret;exact wldP rfl (Stair.pass HOK.out (Stair.pass HFM.out (Stair.fall (fun h=>HG1.out (by simp) (h 1 (by omega)))))) HT2.out.bel
  | false=>
  have HFW:Hid (FewP d):=fun t ht=>by
   by_cases c:t=0
   ·subst c;exact HF0.out (by simp)
   ·obtain rfl:t=1:=by omega
    exact HF1.out (by simp)
  go_wp2;clear k0 k1 k0' k1' HF0 HF1 HG0 HG1 q0 q1 q1' x2_11 hl0 hl1
  go_loopw [4] (fun v wr=>∃ t:Nat,t≤d.tapes.1∧v=.int .i64 t∧(∀ u,u<t→∀ k,k<(d.tapes.2 u).recs.1→RecAns d.shape ((d.tapes.2 u).recs.2 k) 0)∧One w wr (rwW d ao1 cap1 ao2 cap2 (some ⟨b3,off3,none⟩) cap3).toArray 38) (fun v _=>d.tapes.1-(intOf v).toNat)
  case atStart=>exact ⟨0,Nat.zero_le _,rfl,fun i hi=>by omega,HT2.out⟩
  case round=>
   clear HT2;obtain ⟨t,ht,rfl,hal,T3⟩:=hrel;obtain ⟨wo,rfl⟩:∃ x,x=wr:=⟨_,rfl⟩;have HAL:=hid hal;have HT3:=hid T3;clear hal
   by_cases hlt:t<d.tapes.1
   ·have zo:w.heap.size<wo.heap.size:=T3.b1.lt
    have hd2:decide ((t:Int)<2)=true:=decide_eq_true (by omega);clear T3;go_wp2
    go_loopw [5] (fun v wx=>∃ i:Nat,i≤(d.tapes.2 t).recs.1∧v=.int .i64 i∧(∀ k,k<i→RecAns d.shape ((d.tapes.2 t).recs.2 k) 0)∧One w wx (rwW d ao1 cap1 ao2 cap2 (some ⟨b3,off3,none⟩) cap3).toArray 38) (fun v _=>(d.tapes.2 t).recs.1-(intOf v).toNat)
    case atStart=>exact ⟨0,Nat.zero_le _,rfl,fun i hi=>by omega,HT3.out⟩
    case round=>
     clear HT3;obtain ⟨i,hi',rfl,hal2,T4⟩:=hrel;obtain ⟨wx,rfl⟩:∃ x,x=wr:=⟨_,rfl⟩;have HAL2:=hid hal2;have HT4:=hid T4;have zx:w.heap.size<wx.heap.size:=T4.b1.lt;clear hal2;obtain ⟨ct,hrt,hct⟩:=zay (t:=0) HEL.out T4.bel hhi hb3 hlt;obtain ⟨ap,cp,rfl,gt⟩:=zbk hrt;have c1:wx.cell? ⟨b3,off3+t*2+1,none⟩=some (.slice ap (d.tapes.2 t).recs.1 cp):=hct 1 (by decide);obtain ⟨_,_,et,hmt,hct'⟩:=gt
     cases et
     unfold maxLen at hmt;have HCT:=hid hct';have x5_11:wx.cell? ⟨w.heap.size,11,none⟩=some (.slice (some ⟨b3,off3,none⟩) d.tapes.1 cap3):=T4.b1.cell 11;clear hct hrt hct'
     by_cases hli:i<(d.tapes.2 t).recs.1
     ·obtain ⟨b6,off6,he6,hb6,hel6⟩:=HCT.out (by omega)
      subst he6;obtain ⟨cr,hrr,hcr⟩:=hel6 i hli;obtain ⟨ro6,rc6,ro7,rc7,ro8,rc8,rfl,-⟩:=zaL hrr;have r0:wx.cell? ⟨b6,off6+i*9,none⟩=some (.int .i64 ((d.tapes.2 t).recs.2 i).kind):=hcr 0 (by decide);have kr0:=cell_regrown r0;have r1:wx.cell? ⟨b6,off6+i*9+1,none⟩=some (.int .i64 ((d.tapes.2 t).recs.2 i).seq):=hcr 1 (by decide);have kr1:=cell_regrown r1;have r2:wx.cell? ⟨b6,off6+i*9+2,none⟩=some (.string ((d.tapes.2 t).recs.2 i).name):=hcr 2 (by decide);have kr2:=cell_regrown r2;have r3:wx.cell? ⟨b6,off6+i*9+3,none⟩=some (.int .i64 ((d.tapes.2 t).recs.2 i).length):=hcr 3 (by decide);have kr3:=cell_regrown r3;have r4:wx.cell? ⟨b6,off6+i*9+4,none⟩=some (.int .i64 ((d.tapes.2 t).recs.2 i).group):=hcr 4 (by decide);have kr4:=cell_regrown r4;have r5:wx.cell? ⟨b6,off6+i*9+5,none⟩=some (.int .i64 ((d.tapes.2 t).recs.2 i).row):=hcr 5 (by decide);have kr5:=cell_regrown r5;have r6:wx.cell? ⟨b6,off6+i*9+6,none⟩=some (.slice ro6 ((d.tapes.2 t).recs.2 i).rows.1 rc6):=hcr 6 (by decide);have kr6:=cell_regrown r6;have r7:wx.cell? ⟨b6,off6+i*9+7,none⟩=some (.slice ro7 ((d.tapes.2 t).recs.2 i).data.1 rc7):=hcr 7 (by decide);have kr7:=cell_regrown r7;have r8:wx.cell? ⟨b6,off6+i*9+8,none⟩=some (.slice ro8 ((d.tapes.2 t).recs.2 i).delta.1 rc8):=hcr 8 (by decide);have kr8:=cell_regrown r8;have HRR:=hid hrr;obtain ⟨X,hX⟩:∃ X,RecAns d.shape ((d.tapes.2 t).recs.2 i) X:=zcV (K:=isZ) ⟨0,rfl⟩ _;have HX:=hid hX;have kx5_11:=cell_regrown x5_11;have kc1:=cell_regrown c1;have x5_0:wx.cell? ⟨w.heap.size,0,none⟩=some (.int .i64 (d.shape 0)):=T4.b1.cell 0;have kx5_0:=cell_regrown x5_0;have x5_1:wx.cell? ⟨w.heap.size,1,none⟩=some (.int .i64 (d.shape 1)):=T4.b1.cell 1;have kx5_1:=cell_regrown x5_1;have x5_2:wx.cell? ⟨w.heap.size,2,none⟩=some (.int .i64 (d.shape 2)):=T4.b1.cell 2;have kx5_2:=cell_regrown x5_2;have x5_3:wx.cell? ⟨w.heap.size,3,none⟩=some (.int .i64 (d.shape 3)):=T4.b1.cell 3;have kx5_3:=cell_regrown x5_3;have x5_4:wx.cell? ⟨w.heap.size,4,none⟩=some (.int .i64 (d.shape 4)):=T4.b1.cell 4;have kx5_4:=cell_regrown x5_4;have x5_5:wx.cell? ⟨w.heap.size,5,none⟩=some (.int .i64 (d.shape 5)):=T4.b1.cell 5;have kx5_5:=cell_regrown x5_5;have x5_6:wx.cell? ⟨w.heap.size,6,none⟩=some (.int .i64 (d.shape 6)):=T4.b1.cell 6;have kx5_6:=cell_regrown x5_6;have x5_7:wx.cell? ⟨w.heap.size,7,none⟩=some (.int .i64 (d.shape 7)):=T4.b1.cell 7
      have kx5_7:=cell_regrown x5_7;have x5_8:wx.cell? ⟨w.heap.size,8,none⟩=some (.int .i64 (d.shape 8)):=T4.b1.cell 8;have kx5_8:=cell_regrown x5_8;have CR:=zaB (W:=wx) (fun w' hw'=>zig HX.out (zgv d.shape ((d.tapes.2 t).recs.2 i) _ hi w' (zab.rd_below HRR.out hw' (by omega)) (Nat.le_trans (by omega) hw'.size) (HNM.out t hlt i hli)));unfold zae at CR;clear hel6 hcr hrr T4 hX
      go_upto_region 14 with fail
      refine WQ.region (by kernel_rfl) (by kernel_rfl) ?_
      repeat (first | (apply WQ.skip;(case hw=>rfl);intro K hK;go_simp;apply hK;clear hK K) | (apply WQ.want;(case hw=>rfl);intro K hK;go_simp;first | (apply hK;clear hK K) | (apply Exists.intro;apply And.intro;(case left=>intro p;(first | (go_at_call 55;exact CR _ _)));apply hK;clear hK K)))
      refine WQ.nil ?_;intro w6 hw6;have HT6:=hid (HT4.out.call (zaM hw6));clear hw6 CR r0 kr0 x5_0 kx5_0 r1 kr1 x5_1 kx5_1 r2 kr2 x5_2 kx5_2 r3 kr3 x5_3 kx5_3 r4 kr4 x5_4 kx5_4 r5 kr5 x5_5 kx5_5 r6 kr6 x5_6 kx5_6 r7 kr7 x5_7 kx5_7 r8 kr8 x5_8 kx5_8 x5_11 kx5_11 c1 kc1
      by_cases hx0:X=0
      ·subst hx0
       go_wp2
       go_roundw
       case rel=>exact ⟨i+1,by omega,by go_num,fun k hk=>by
        by_cases c:k=i
        ·subst c;exact HX.out
        ·exact HAL2.out k (by omega),HT6.out⟩
       case measure=>simp [intOf];omega
      ·have hne:(X != 0)=true:=by simp [hx0]
       go_wp2;go_ret;exact wldP rfl (Stair.pass HOK.out (Stair.pass HFM.out (Stair.pass HFW.out (Stair.last (.inl ⟨hx0,.inr ⟨hx0,t,i,hlt,hli,HX.out,HAL2.out,HAL.out⟩⟩))))) HT6.out.bel
     ·obtain rfl:i=(d.tapes.2 t).recs.1:=by omega
      clear T4;go_wp2
      go_roundw
      case rel=>exact ⟨t+1,by omega,by go_num,fun u hu=>by
       by_cases c:u=t
       ·subst c;exact HAL2.out
       ·exact HAL.out u (by omega),HT4.out⟩
      case measure=>simp [intOf];omega
   ·obtain rfl:t=d.tapes.1:=by omega
    clear T3;have HRA:Hid (RecsAns d.shape d.tapes.1 d.tapes.2 0):=.inl ⟨rfl,HAL.out⟩;go_wp2
    go_loop [7] (fun v=>∃ t:Nat,t≤d.tapes.1∧v=.int .i64 t∧∀ u,u<t→(d.tapes.2 u).wiped=true→(d.tapes.2 u).recs.1=0) (fun v=>d.tapes.1-(intOf v).toNat)
    case atStart=>exact ⟨0,Nat.zero_le _,rfl,fun i hi=>by omega⟩
    case round=>
     obtain ⟨t,ht,rfl,hal⟩:=hrel;have HAL3:=hid hal;clear hal
     by_cases hlt:t<d.tapes.1
     ·obtain ⟨ct,hrt,hct⟩:=zay (t:=0) HEL.out HT3.out.bel hhi hb3 hlt
      obtain ⟨ap,cp,rfl,gt⟩:=zbk hrt;have c0:wo.cell? ⟨b3,off3+t*2,none⟩=some (.bool (d.tapes.2 t).wiped):=hct 0 (by decide);have c1:wo.cell? ⟨b3,off3+t*2+1,none⟩=some (.slice ap (d.tapes.2 t).recs.1 cp):=hct 1 (by decide);have x5_11:wo.cell? ⟨w.heap.size,11,none⟩=some (.slice (some ⟨b3,off3,none⟩) d.tapes.1 cap3):=HT3.out.b1.cell 11;obtain ⟨u,hu⟩:∃ u,u=(d.tapes.2 t).wiped:=⟨_,rfl⟩;obtain ⟨g,hg⟩:∃ b,decide (0<(d.tapes.2 t).recs.1)=b:=⟨_,rfl⟩
      have hg':decide (0<((d.tapes.2 t).recs.1:Int))=g:=by rw [← hg];simp
      rw [← hu] at c0
      have HE3:Hid (((d.tapes.2 t).wiped=true→(d.tapes.2 t).recs.1=0)↔(u=true→g=false)):=by
       show _↔_
       rw [← hu,← hg]
       simp
      clear hct hrt gt hu
      cases u with
      | false=>
       go_wp2
       go_round
       case rel=>exact ⟨t+1,by omega,by go_num,fun u hu=>by
        by_cases c:u=t
        ·subst c;exact HE3.out.2 (by simp)
        ·exact HAL3.out u (by omega)⟩
       case measure=>simp [intOf];omega
      | true=>
       cases g with
       | false=>
        go_wp2
        go_round
        case rel=>exact ⟨t+1,by omega,by go_num,fun u hu=>by
         by_cases c:u=t
         ·subst c;exact HE3.out.2 (by simp)
         ·exact HAL3.out u (by omega)⟩
        case measure=>simp [intOf];omega
       | true=>
        go_wp2;go_ret;exact wldP rfl (Stair.pass HOK.out (Stair.pass HFM.out (Stair.pass HFW.out (Stair.last (.inr ⟨HRA.out,Stair.fall (fun h=>by have:=HE3.out.1 (h t hlt);simp at this)⟩))))) HT3.out.bel
     ·obtain rfl:t=d.tapes.1:=by omega
      have HCL:=hid HAL3.out;have x5_12:wo.cell? ⟨w.heap.size,12,none⟩=some (.int .i64 d.writes):=HT3.out.b1.cell 12;have x5_13:wo.cell? ⟨w.heap.size,13,none⟩=some (.int .i64 d.stop):=HT3.out.b1.cell 13;obtain ⟨t1,h1⟩:=exB (InP d.writes 0 1000000000);obtain ⟨t2,h2⟩:=exB (InP d.stop (-1) 1000000000);have C1:=fun w'=>zck (w:=w') h1;have C2:=fun w'=>zck (w:=w') h2
      have HE4:Hid (zfE d↔(t1=true∧t2=true)):=by
       show zfE d↔_
       rw [h1,h2];exact Iff.rfl
      clear h1 h2
      go_wp2_with fail
      refine (C1 _).mono ?_;rintro e w' ⟨rfl,hw'⟩;obtain rfl:=hw'.symm;clear C1
      cases t1 with
      | false=>
       go_wp2;go_ret;exact wldP rfl (Stair.pass HOK.out (Stair.pass HFM.out (Stair.pass HFW.out (Stair.last (.inr ⟨HRA.out,Stair.pass HCL.out (Stair.fall (fun h=>by have:=HE4.out.1 h;simp at this))⟩))))) HT3.out.bel
      | true=>
       go_wp2_with fail
       refine (C2 _).mono ?_;rintro e w' ⟨rfl,hw'⟩;obtain rfl:=hw'.symm;clear C2
       cases t2 with
       | false=>
        go_wp2;go_ret;exact wldP rfl (Stair.pass HOK.out (Stair.pass HFM.out (Stair.pass HFW.out (Stair.last (.inr ⟨HRA.out,Stair.pass HCL.out (Stair.fall (fun h=>by have:=HE4.out.1 h;simp at this))⟩))))) HT3.out.bel
       | true=>
        go_wp2;go_ret;exact wldP rfl (Stair.pass HOK.out (Stair.pass HFM.out (Stair.pass HFW.out (Stair.last (.inr ⟨HRA.out,Stair.pass HCL.out (Stair.pass (HE4.out.2 (by simp)) (Stair.last rfl))⟩))))) HT3.out.bel
set_option maxRecDepth 20000 in
theorem zgP (d:WorldD) (cs:List Value) (hi:Nat) (w:World) (h:zan.rd w hi d cs) (hhi:hi≤w.heap.size) (hnm:∀ t,t<d.tapes.1→∀ i,i<(d.tapes.2 t).recs.1→((d.tapes.2 t).recs.2 i).name.size≤1048576) (hok':¬ zaq d.shape) :
 Calls Tryz.prog 23 #[.agg cs.toArray] w (zcK d w):=by
 obtain ⟨ao1,cap1,ao2,cap2,ao3,cap3,rfl,g1,g2,g3,-⟩:=za2 h;have HRD:=hid h;obtain ⟨v2,e2,⟨h2,hcp2⟩,_⟩:=g2
 cases e2
 have H2:=hid h2;have HCP:=hid hcp2;have hm2:=h2.mx;obtain ⟨_,_,e3,hm3,hc3⟩:=g3
 cases e3
 unfold maxLen at hm2 hm3;have HC3:=hid hc3;have HNM:=hid hnm;clear h h2 hcp2 hc3 g1 hnm;have T0:=zaJ w (rwW d ao1 cap1 ao2 cap2 ao3 cap3).toArray 38;have CSh:=fun w'=>zbo d.shape w';unfold zae at CSh
 go_enter Tryz.func23,Tryz.ntmps23
 go_wp2_with fail
 refine (CSh _).mono ?_;rintro e w1 ⟨x,rfl,hx,b1⟩;have T1:One w w1 (rwW d ao1 cap1 ao2 cap2 ao3 cap3).toArray 38:=T0.call b1;have HT1:=hid T1;clear b1 T0 CSh;have x1_0:w1.cell? ⟨w.heap.size,0,none⟩=some (.int .i64 (d.shape 0)):=T1.b1.cell 0;have kx1_0:=cell_regrown x1_0;have x1_1:w1.cell? ⟨w.heap.size,1,none⟩=some (.int .i64 (d.shape 1)):=T1.b1.cell 1;have kx1_1:=cell_regrown x1_1;have x1_2:w1.cell? ⟨w.heap.size,2,none⟩=some (.int .i64 (d.shape 2)):=T1.b1.cell 2;have kx1_2:=cell_regrown x1_2;have x1_3:w1.cell? ⟨w.heap.size,3,none⟩=some (.int .i64 (d.shape 3)):=T1.b1.cell 3;have kx1_3:=cell_regrown x1_3;have x1_4:w1.cell? ⟨w.heap.size,4,none⟩=some (.int .i64 (d.shape 4)):=T1.b1.cell 4;have kx1_4:=cell_regrown x1_4;have x1_5:w1.cell? ⟨w.heap.size,5,none⟩=some (.int .i64 (d.shape 5)):=T1.b1.cell 5;have kx1_5:=cell_regrown x1_5;have x1_6:w1.cell? ⟨w.heap.size,6,none⟩=some (.int .i64 (d.shape 6)):=T1.b1.cell 6;have kx1_6:=cell_regrown x1_6;have x1_7:w1.cell? ⟨w.heap.size,7,none⟩=some (.int .i64 (d.shape 7)):=T1.b1.cell 7;have kx1_7:=cell_regrown x1_7;have x1_8:w1.cell? ⟨w.heap.size,8,none⟩=some (.int .i64 (d.shape 8)):=T1.b1.cell 8;have kx1_8:=cell_regrown x1_8;have x1_9:w1.cell? ⟨w.heap.size,9,none⟩=some (.slice ao1 d.groups.1 cap1):=T1.b1.cell 9;have kx1_9:=cell_regrown x1_9;have x1_10:w1.cell? ⟨w.heap.size,10,none⟩=some (.slice ao2 d.on.1 cap2):=T1.b1.cell 10;have kx1_10:=cell_regrown x1_10;have x1_11:w1.cell? ⟨w.heap.size,11,none⟩=some (.slice ao3 d.tapes.1 cap3):=T1.b1.cell 11;have kx1_11:=cell_regrown x1_11;have x1_12:w1.cell? ⟨w.heap.size,12,none⟩=some (.int .i64 d.writes):=T1.b1.cell 12;have kx1_12:=cell_regrown x1_12;have x1_13:w1.cell? ⟨w.heap.size,13,none⟩=some (.int .i64 d.stop):=T1.b1.cell 13;have kx1_13:=cell_regrown x1_13;have x1_14:w1.cell? ⟨w.heap.size,14,none⟩=some (.bool d.down):=T1.b1.cell 14;have kx1_14:=cell_regrown x1_14;clear T1
 rcases hx with ⟨rfl,hno⟩ | ⟨rfl,hok⟩
 ·go_wp2
  go_ret;exact wldP rfl (Stair.fall hno) HT1.out.bel
 exact absurd hok hok'
theorem zfb (d:WorldD) (cs:List Value) (hi:Nat) (w:World) (h:zan.rd w hi d cs) (hhi:hi≤w.heap.size) (hnm:∀ t,t<d.tapes.1→∀ i,i<(d.tapes.2 t).recs.1→((d.tapes.2 t).recs.2 i).name.size≤1048576) :
 Calls Tryz.prog 23 #[.agg cs.toArray] w (zcK d w):=by
 by_cases h0:zaq d.shape
 ·by_cases h1:zcA d∧zbN d.on.1 d.on.2 (d.shape 0+d.shape 1-1)
  ·by_cases h2:(d.on.1:Int)≤d.shape 5∧(d.down=true→d.on.1=0)
   ·by_cases h3:d.tapes.1=2
    ·exact zgO d cs hi w h hhi hnm h0 ⟨h1.1,⟨h1.2,h2.1,h2.2⟩,h3⟩
    ·exact zgN d cs hi w h hhi hnm h0 ⟨h1.1,h1.2,h2,h3⟩
   ·exact zgM d cs hi w h hhi hnm h0 ⟨h1.1,h1.2,h2⟩
  ·exact zgL d cs hi w h hhi hnm h0 h1
 ·exact zgP d cs hi w h hhi hnm h0
set_option maxRecDepth 20000 in
theorem zf2:ToV zab zaK 56:=fun cs d hi w r hhi hn=>by
 obtain ⟨ao6,cap6,ao7,cap7,ao8,cap8,rfl,h6,h7,h8,k0,k1,k2,k3,k4,k5⟩:=zaL r;clear r;unfold zaK lenD at hn;have Q0:=hid k0;have Q1:=hid k1;have Q3:=hid k3;have Q4:=hid k4;have Q5:=hid k5;have Q2:=hid k2;clear k0 k1 k2 k3 k4 k5;have T0:=zaH w (rwR d ao6 cap6 ao7 cap7 ao8 cap8).toArray #[.int .i64 0,.int .i64 0,.string ⟨#[]⟩,.int .i64 0,.int .i64 0,.int .i64 0,.slice none 0 0,.slice none 0 0,.slice none 0 0] 92 92
 go_enter Tryz.func56,Tryz.ntmps56
 go_upto_region 1 with fail
 obtain ⟨W0,hW0⟩:∃ x,x=(w.alloc (.cells (rwR d ao6 cap6 ao7 cap7 ao8 cap8).toArray 92)).alloc (.cells #[.int .i64 0,.int .i64 0,.string ⟨#[]⟩,.int .i64 0,.int .i64 0,.int .i64 0,.slice none 0 0,.slice none 0 0,.slice none 0 0] 92):=⟨_,rfl⟩
 have z0:W0.heap.size=w.heap.size+1+1:=by rw [hW0];simp
 rw [← hW0] at T0 ⊢;clear hW0;have bA0:=bAl W0 (.cells #[] 2);have TA0:=T0.call bA0;obtain ⟨v',w1,hrun,o0,b0⟩:=zfL 25 (W0.alloc (.cells #[] 2)) W0.heap.size (zgz W0 2) (zag.rd_below h6 TA0.bel hhi) (show d.rows.1≤10000000 by omega);obtain ⟨bo6,bcap6,hv⟩:=zcR o0;obtain rfl:=za5 hv;clear hv;have zw0:W0.heap.size+1≤w1.heap.size:=Nat.le_trans (by simp) b0.size;have TB0:Two w w1 (rwR d ao6 cap6 ao7 cap7 ao8 cap8).toArray #[.int .i64 0,.int .i64 0,.string ⟨#[]⟩,.int .i64 0,.int .i64 0,.int .i64 0,.slice none 0 0,.slice none 0 0,.slice none 0 0] 92 92:=⟨TA0.b1.below b0 (by omega),TA0.b2.below b0 (by omega),TA0.bel.trans (b0.mono (by omega))⟩;have xa:(W0.alloc (.cells #[] 2)).cell? ⟨w.heap.size,6,none⟩=some (.slice ao6 d.rows.1 cap6):=TA0.b1.cell 6;have xb:w1.cell? ⟨w.heap.size,6,none⟩=some (.slice ao6 d.rows.1 cap6):=TB0.b1.cell 6;have xf:w1.frozen? ⟨w.heap.size,6,none⟩=false:=TB0.b1.frozen 6;have T1:Two w (w1.setCell ⟨w.heap.size,6,none⟩ (.slice bo6 d.rows.1 bcap6)) (rwR d bo6 bcap6 ao7 cap7 ao8 cap8).toArray #[.int .i64 0,.int .i64 0,.string ⟨#[]⟩,.int .i64 0,.int .i64 0,.int .i64 0,.slice none 0 0,.slice none 0 0,.slice none 0 0] 92 92:=⟨TB0.b1.stL [.slice bo6 d.rows.1 bcap6] 6,TB0.b2.seto _ _ (by omega),TB0.bel.setCell (Nat.le_refl _) _⟩;have O6x:=o0.stN w.heap.size 6 [.slice bo6 d.rows.1 bcap6] (by omega)
 have e0:(w1.setCell ⟨w.heap.size,6,none⟩ (.slice bo6 d.rows.1 bcap6)).heap.size=w1.heap.size:=by simp
 clear TA0 TB0 o0 b0 bA0 T0
 go_upto_region 2 with (at_builtin;refine zc2 rfl (.tmp 3) (.tmp 5) rfl ?_ ?_ hrun ?_;(simp [Act.eval]);(simp [Act.eval]))
 obtain ⟨W1,hW1⟩:∃ x,x=w1.setCell ⟨w.heap.size,6,none⟩ (.slice bo6 d.rows.1 bcap6):=⟨_,rfl⟩
 have O6:Hid (OwnT zag W1 W0.heap.size w1.heap.size d.rows [.slice bo6 d.rows.1 bcap6]):=by rw [hW1];exact O6x
 rw [← hW1] at T1 e0 ⊢;clear hW1 hrun xa xb xf O6x;have bA1:=bAl W1 (.cells #[] 5);have TA1:=T1.call bA1;obtain ⟨v',w2,hrun,o1,b1⟩:=zdG 90 (W1.alloc (.cells #[] 5)) W1.heap.size (zgz W1 5) (zac.rd_below h7 TA1.bel hhi) (show d.data.1≤10000000 by omega);obtain ⟨bo7,bcap7,hv⟩:=zbt o1;obtain rfl:=za5 hv;clear hv;have zw1:W1.heap.size+1≤w2.heap.size:=Nat.le_trans (by simp) b1.size;have TB1:Two w w2 (rwR d bo6 bcap6 ao7 cap7 ao8 cap8).toArray #[.int .i64 0,.int .i64 0,.string ⟨#[]⟩,.int .i64 0,.int .i64 0,.int .i64 0,.slice none 0 0,.slice none 0 0,.slice none 0 0] 92 92:=⟨TA1.b1.below b1 (by omega),TA1.b2.below b1 (by omega),TA1.bel.trans (b1.mono (by omega))⟩;have xa:(W1.alloc (.cells #[] 5)).cell? ⟨w.heap.size,7,none⟩=some (.slice ao7 d.data.1 cap7):=TA1.b1.cell 7;have xb:w2.cell? ⟨w.heap.size,7,none⟩=some (.slice ao7 d.data.1 cap7):=TB1.b1.cell 7;have xf:w2.frozen? ⟨w.heap.size,7,none⟩=false:=TB1.b1.frozen 7;have T2:Two w (w2.setCell ⟨w.heap.size,7,none⟩ (.slice bo7 d.data.1 bcap7)) (rwR d bo6 bcap6 bo7 bcap7 ao8 cap8).toArray #[.int .i64 0,.int .i64 0,.string ⟨#[]⟩,.int .i64 0,.int .i64 0,.int .i64 0,.slice none 0 0,.slice none 0 0,.slice none 0 0] 92 92:=⟨TB1.b1.stL [.slice bo7 d.data.1 bcap7] 7,TB1.b2.seto _ _ (by omega),TB1.bel.setCell (Nat.le_refl _) _⟩;have O6x:=((O6.out.call bA1).below b1 (by omega)).stN w.heap.size 7 [.slice bo7 d.data.1 bcap7] (by omega);have O7x:=o1.stN w.heap.size 7 [.slice bo7 d.data.1 bcap7] (by omega)
 have e1:(w2.setCell ⟨w.heap.size,7,none⟩ (.slice bo7 d.data.1 bcap7)).heap.size=w2.heap.size:=by simp
 clear TA1 TB1 o1 b1 bA1 T1 O6
 go_upto_region 3 with (at_builtin;refine zc2 rfl (.tmp 8) (.tmp 10) rfl ?_ ?_ hrun ?_;(simp [Act.eval]);(simp [Act.eval]))
 obtain ⟨W2,hW2⟩:∃ x,x=w2.setCell ⟨w.heap.size,7,none⟩ (.slice bo7 d.data.1 bcap7):=⟨_,rfl⟩
 have O6:Hid (OwnT zag W2 W0.heap.size w1.heap.size d.rows [.slice bo6 d.rows.1 bcap6]):=by rw [hW2];exact O6x
 have O7:Hid (OwnT zac W2 W1.heap.size w2.heap.size d.data [.slice bo7 d.data.1 bcap7]):=by rw [hW2];exact O7x
 rw [← hW2] at T2 e1 ⊢;clear hW2 hrun xa xb xf O6x O7x;have bA2:=bAl W2 (.cells #[] 5);have TA2:=T2.call bA2;obtain ⟨v',w3,hrun,o2,b2⟩:=zdG 90 (W2.alloc (.cells #[] 5)) W2.heap.size (zgz W2 5) (zac.rd_below h8 TA2.bel hhi) (show d.delta.1≤10000000 by omega);obtain ⟨bo8,bcap8,hv⟩:=zbt o2;obtain rfl:=za5 hv;clear hv;have zw2:W2.heap.size+1≤w3.heap.size:=Nat.le_trans (by simp) b2.size;have TB2:Two w w3 (rwR d bo6 bcap6 bo7 bcap7 ao8 cap8).toArray #[.int .i64 0,.int .i64 0,.string ⟨#[]⟩,.int .i64 0,.int .i64 0,.int .i64 0,.slice none 0 0,.slice none 0 0,.slice none 0 0] 92 92:=⟨TA2.b1.below b2 (by omega),TA2.b2.below b2 (by omega),TA2.bel.trans (b2.mono (by omega))⟩;have xa:(W2.alloc (.cells #[] 5)).cell? ⟨w.heap.size,8,none⟩=some (.slice ao8 d.delta.1 cap8):=TA2.b1.cell 8;have xb:w3.cell? ⟨w.heap.size,8,none⟩=some (.slice ao8 d.delta.1 cap8):=TB2.b1.cell 8;have xf:w3.frozen? ⟨w.heap.size,8,none⟩=false:=TB2.b1.frozen 8;have T3:Two w (w3.setCell ⟨w.heap.size,8,none⟩ (.slice bo8 d.delta.1 bcap8)) (rwR d bo6 bcap6 bo7 bcap7 bo8 bcap8).toArray #[.int .i64 0,.int .i64 0,.string ⟨#[]⟩,.int .i64 0,.int .i64 0,.int .i64 0,.slice none 0 0,.slice none 0 0,.slice none 0 0] 92 92:=⟨TB2.b1.stL [.slice bo8 d.delta.1 bcap8] 8,TB2.b2.seto _ _ (by omega),TB2.bel.setCell (Nat.le_refl _) _⟩;have O6x:=((O6.out.call bA2).below b2 (by omega)).stN w.heap.size 8 [.slice bo8 d.delta.1 bcap8] (by omega);have O7x:=((O7.out.call bA2).below b2 (by omega)).stN w.heap.size 8 [.slice bo8 d.delta.1 bcap8] (by omega);have O8x:=o2.stN w.heap.size 8 [.slice bo8 d.delta.1 bcap8] (by omega)
 have e2:(w3.setCell ⟨w.heap.size,8,none⟩ (.slice bo8 d.delta.1 bcap8)).heap.size=w3.heap.size:=by simp
 clear TA2 TB2 o2 b2 bA2 T2 O6 O7
 go_upto_region 4 with (at_builtin;refine zc2 rfl (.tmp 13) (.tmp 15) rfl ?_ ?_ hrun ?_;(simp [Act.eval]);(simp [Act.eval]))
 obtain ⟨W3,hW3⟩:∃ x,x=w3.setCell ⟨w.heap.size,8,none⟩ (.slice bo8 d.delta.1 bcap8):=⟨_,rfl⟩
 have O6:Hid (OwnT zag W3 W0.heap.size w1.heap.size d.rows [.slice bo6 d.rows.1 bcap6]):=by rw [hW3];exact O6x
 have O7:Hid (OwnT zac W3 W1.heap.size w2.heap.size d.data [.slice bo7 d.data.1 bcap7]):=by rw [hW3];exact O7x
 have O8:Hid (OwnT zac W3 W2.heap.size w3.heap.size d.delta [.slice bo8 d.delta.1 bcap8]):=by rw [hW3];exact O8x
 rw [← hW3] at T3 e2 ⊢;clear hW3 hrun xa xb xf O6x O7x O8x;have y_0:W3.cell? ⟨w.heap.size,0,none⟩=some (.int .i64 d.kind):=T3.b1.cell 0;have y_1:W3.cell? ⟨w.heap.size,1,none⟩=some (.int .i64 d.seq):=T3.b1.cell 1;have y_2:W3.cell? ⟨w.heap.size,2,none⟩=some (.string d.name):=T3.b1.cell 2;have y_3:W3.cell? ⟨w.heap.size,3,none⟩=some (.int .i64 d.length):=T3.b1.cell 3;have y_4:W3.cell? ⟨w.heap.size,4,none⟩=some (.int .i64 d.group):=T3.b1.cell 4;have y_5:W3.cell? ⟨w.heap.size,5,none⟩=some (.int .i64 d.row):=T3.b1.cell 5;have y_6:W3.cell? ⟨w.heap.size,6,none⟩=some (.slice bo6 d.rows.1 bcap6):=T3.b1.cell 6;have y_7:W3.cell? ⟨w.heap.size,7,none⟩=some (.slice bo7 d.data.1 bcap7):=T3.b1.cell 7;have y_8:W3.cell? ⟨w.heap.size,8,none⟩=some (.slice bo8 d.delta.1 bcap8):=T3.b1.cell 8;have r_0:W3.cell? ⟨w.heap.size+1,0,none⟩=some (.int .i64 0):=T3.b2.cell 0;have rf_0:W3.frozen? ⟨w.heap.size+1,0,none⟩=false:=T3.b2.frozen 0;have r_1:W3.cell? ⟨w.heap.size+1,1,none⟩=some (.int .i64 0):=T3.b2.cell 1;have rf_1:W3.frozen? ⟨w.heap.size+1,1,none⟩=false:=T3.b2.frozen 1;have r_2:W3.cell? ⟨w.heap.size+1,2,none⟩=some (.string ⟨#[]⟩):=T3.b2.cell 2;have rf_2:W3.frozen? ⟨w.heap.size+1,2,none⟩=false:=T3.b2.frozen 2;have r_3:W3.cell? ⟨w.heap.size+1,3,none⟩=some (.int .i64 0):=T3.b2.cell 3;have rf_3:W3.frozen? ⟨w.heap.size+1,3,none⟩=false:=T3.b2.frozen 3;have r_4:W3.cell? ⟨w.heap.size+1,4,none⟩=some (.int .i64 0):=T3.b2.cell 4;have rf_4:W3.frozen? ⟨w.heap.size+1,4,none⟩=false:=T3.b2.frozen 4;have r_5:W3.cell? ⟨w.heap.size+1,5,none⟩=some (.int .i64 0):=T3.b2.cell 5;have rf_5:W3.frozen? ⟨w.heap.size+1,5,none⟩=false:=T3.b2.frozen 5;have r_6:W3.cell? ⟨w.heap.size+1,6,none⟩=some (.slice none 0 0):=T3.b2.cell 6;have rf_6:W3.frozen? ⟨w.heap.size+1,6,none⟩=false:=T3.b2.frozen 6;have r_7:W3.cell? ⟨w.heap.size+1,7,none⟩=some (.slice none 0 0):=T3.b2.cell 7;have rf_7:W3.frozen? ⟨w.heap.size+1,7,none⟩=false:=T3.b2.frozen 7;have r_8:W3.cell? ⟨w.heap.size+1,8,none⟩=some (.slice none 0 0):=T3.b2.cell 8;have rf_8:W3.frozen? ⟨w.heap.size+1,8,none⟩=false:=T3.b2.frozen 8;have HB:=hid T3.bel;clear T3;go_wp2;refine bodyPost_ret (v:=.agg (rwR d bo6 bcap6 bo7 bcap7 bo8 bcap8).toArray) (by simp [results,Tryz.results56,go_sem,r_0,y_0,r_1,y_1,r_2,y_2,r_3,y_3,r_4,y_4,r_5,y_5,r_6,y_6,r_7,y_7,r_8,y_8]) rfl ?_;have F:OwnT zab W3 (w.heap.size+1+1) W3.heap.size d ([.int .i64 d.kind]++([.int .i64 d.seq]++([.string d.name]++([.int .i64 d.length]++([.int .i64 d.group]++([.int .i64 d.row]++([.slice bo6 d.rows.1 bcap6]++([.slice bo7 d.data.1 bcap7]++[.slice bo8 d.delta.1 bcap8])))))))):=OwnT.conv (OwnT.pre (A:=layI) (a:=d.kind) (c:=[.int .i64 d.kind]) ⟨rfl,Q0.out,rfl⟩ (OwnT.pre (A:=layI) (a:=d.seq) (c:=[.int .i64 d.seq]) ⟨rfl,Q1.out,rfl⟩ (OwnT.pre (A:=layS) (a:=d.name) (c:=[.string d.name]) ⟨rfl,Q2.out,rfl⟩ (OwnT.pre (A:=layI) (a:=d.length) (c:=[.int .i64 d.length]) ⟨rfl,Q3.out,rfl⟩ (OwnT.pre (A:=layI) (a:=d.group) (c:=[.int .i64 d.group]) ⟨rfl,Q4.out,rfl⟩ (OwnT.pre (A:=layI) (a:=d.row) (c:=[.int .i64 d.row]) ⟨rfl,Q5.out,rfl⟩ (OwnT.two (O6.out.weaken (by omega) (Nat.le_refl _)) (OwnT.two O7.out (O8.out.weaken (Nat.le_refl _) (by omega)) (by omega) (by omega) (by omega)) (by omega) (by omega) (by omega))))))))
 refine ⟨(rwR d bo6 bcap6 bo7 bcap7 bo8 bcap8),rfl,?_,?_⟩
 ·exact OwnT.finb F (b:=w.heap.size+1) (by omega) (by omega) 0 (rwR d bo6 bcap6 bo7 bcap7 bo8 bcap8) _ rfl
 ·exact HB.out.trans (zbj (by omega) (rwR d bo6 bcap6 bo7 bcap7 bo8 bcap8) 0)
set_option maxRecDepth 20000 in
theorem zfc:ToS (zab.slice 92) (szSl zaK) 24:=fun v d hi w h hhi hn=>by
 obtain ⟨n,x⟩:=d;obtain ⟨ao,cap,hv,hm,hc⟩:=h
 cases hv
 have hn1:=zdY hn;have hn2:∀ i,i<n→zaK (x i)≤1048576:=fun i hi=>zcm hn hi
 simp only at hn1 hm hc
 have HC:=hid hc;clear hn hc
 go_enter Tryz.func24,Tryz.ntmps24
 go_wp2
 go_loopw [3,4] (fun v i wr=>∃ (k:Nat) (ao':Option Addr) (cap':Nat),k≤n∧i=.int .i64 k∧v=.slice ao' k cap'∧Gat zab 92 wr w.heap.size (.slice ao' k cap') k x∧Below w.heap.size w wr) (fun _ i _=>n-(intOf i).toNat)
 case atStart=>exact ⟨0,_,_,Nat.zero_le _,rfl,rfl,ziJ _ _,(Below.refl _ _).alloc (Nat.le_refl _) _⟩
 case round=>
  obtain ⟨k,ao',cap',hk,rfl,rfl,G,hb⟩:=hrel;obtain ⟨wo,rfl⟩:∃ y,y=wr:=⟨_,rfl⟩;have HG:=hid G;have HB:=hid hb;have zo:w.heap.size≤wo.heap.size:=hb.size;clear G
  by_cases hlt:k<n
  ·obtain ⟨b,off,he,hblt,hel⟩:=HC.out (by omega)
   subst he;obtain ⟨ck,hrk,hcell⟩:=zay (t:=0) hel hb hhi hblt hlt;obtain ⟨ao6,cap6,ao7,cap7,ao8,cap8,rfl,-⟩:=zaL hrk;have c0:wo.cell? ⟨b,off+k*9,none⟩=some (.int .i64 (x k).kind):=hcell 0 (by decide);have c1:wo.cell? ⟨b,off+k*9+1,none⟩=some (.int .i64 (x k).seq):=hcell 1 (by decide);have c2:wo.cell? ⟨b,off+k*9+2,none⟩=some (.string (x k).name):=hcell 2 (by decide);have c3:wo.cell? ⟨b,off+k*9+3,none⟩=some (.int .i64 (x k).length):=hcell 3 (by decide);have c4:wo.cell? ⟨b,off+k*9+4,none⟩=some (.int .i64 (x k).group):=hcell 4 (by decide);have c5:wo.cell? ⟨b,off+k*9+5,none⟩=some (.int .i64 (x k).row):=hcell 5 (by decide);have c6:wo.cell? ⟨b,off+k*9+6,none⟩=some (.slice ao6 (x k).rows.1 cap6):=hcell 6 (by decide);have c7:wo.cell? ⟨b,off+k*9+7,none⟩=some (.slice ao7 (x k).data.1 cap7):=hcell 7 (by decide);have c8:wo.cell? ⟨b,off+k*9+8,none⟩=some (.slice ao8 (x k).delta.1 cap8):=hcell 8 (by decide);have C:=zf2 _ (x k) hi wo hrk (Nat.le_trans hhi zo) (hn2 k hlt);clear hel hcell hrk hb
   go_wp2_with fail
   refine C.mono ?_;rintro e w2 ⟨cs',rfl,o2,b2⟩;obtain ⟨bo6,bc6,bo7,bc7,bo8,bc8,rfl⟩:=zd2 o2;clear C c0 c1 c2 c3 c4 c5 c6 c7 c8
   go_wp2_with (at_builtin;refine zhw zcN rfl (.tmp 12) (.tmp 18) rfl (lo:=w.heap.size) (n:=k) (v:=.slice ao' k cap') (x:=x) ?_ HG.out b2 o2 ?_ w2.heap.size 1 ?_ (fun j _=>zii w2 _ _ j) (by omega) (by omega) ?_;(simp [Act.eval]);(exact (Below.refl _ _).alloc (Nat.le_refl _) _);(simp [Act.eval]);intro v4 w4 g4 b4;obtain ⟨ao4,cap4,rfl⟩:=g4.form)
   go_roundw
   case rel=>exact ⟨k+1,ao4,cap4,by omega,by go_num,rfl,g4.congr (fun i _=>by rw [zdT]),HB.out.trans b4⟩
   case measure=>simp [intOf];omega
  ·obtain rfl:k=n:=by omega
   clear hb;go_wp2;go_ret;exact ⟨_,rfl,HG.out.own,HB.out⟩
theorem zgQ {w:World} (b:Nat) (cs:Array Value):ChgL [b] w (w.setRow b cs):=
 ⟨rfl,rfl,rfl,by simp,fun k _ hn=>setRow_other w b k cs (fun h=>hn (by simp [h]))⟩
theorem zb6 {ops:Array Oper} {rest:List Oper} {o:Oper} {a:Act} {w:World} {Q:Exit→Act→World→Prop} (T:TypeId) (x y:Operand) (ho:o.op=.store T x y) (hgd:o.guard=none) (b:Nat) (hx:a.eval x=.pointer (some ⟨b,0,none⟩)) {cs old:List Value} (hy:a.eval y=.agg cs.toArray) (hB:Box w b old.toArray T) {n:Nat} (hi:(Tryz.prog.info? T).map (·.size)=some n) (hl:cs.length=n) (hol:old.length=n) (h1:∀ v,v∈cs→v.oneCell'=true)
 (h:∀ w',Box w' b cs.toArray T→ChgL [b] w w'→w'.heap.size=w.heap.size→wpList Tryz.prog ops Q rest (a.put o.dst undef) w'):wpList Tryz.prog ops Q (o::rest) a w:=by
 refine wpList_store_row hgd T x y ho b cs.toArray hx hy T old.toArray hB (by rw [hi];simp [hl]) (by simp [hl,hol]) (by simp;exact h1) ?_;exact h _ (setRow_heap w b _ cs.toArray T (0,0) hB) (zgQ b _) (by simp)
theorem zen {fn:Func} {R:Ending→World→Prop} {a:Act} {w:World} {p:Tmp} {ty:TypeId} (h:fn.results=#[.cell p ty]) {b:Nat} {cs:List Value} (hp:a.tmps.getD p undef=.pointer (some ⟨b,0,none⟩)) (hB:Box w b cs.toArray ty) {fs:Array Field} (hu:Tryz.prog.underlying ty=some (.struct fs)) {n:Nat} (hi:(Tryz.prog.info? ty).map (·.size)=some n) (hl:cs.length=n) (hd:a.defers=[]) (hR:R (.returned (.agg cs.toArray)) w):bodyPost Tryz.prog fn R .ret a w:=
 bodyPost_ret (results_cell_row h a.tmps w b ty cs.toArray (0,0) (.struct fs) hp hB hu rfl (by rw [hi];simp [hl])) hd hR
theorem OwnT.chgk {α:Type} {A:Lay α} {w w':World} {lo hi:Nat} {a:α} {cs:List Value} {K:List Nat} (h:OwnT A w lo hi a cs) (hc:ChgL K w w') (hK:∀ b,b∈K→b<lo∨hi≤b):OwnT A w' lo hi a cs:=by
 obtain ⟨M,h1,h2,h3⟩:=h;exact ⟨M,A.own_kept h1 (fun b hb=>hc.block b (A.own_lt h1 b hb) (fun hh=>by have:=hK b hh;have:=h3 b hb;omega)),h2,h3⟩
theorem ziA {w:World} {hi:Nat} {d:WorldD} {cs:List Value} (h:zan.rd w hi d cs):∃ v0 v1 v2 v3 v4 v5 v6 v7 v8 vp0 vl0 vq0 vp1 vl1 vq1 vp2 vl2 vq2 v9 v10 vb,cs=[.int .i64 v0,.int .i64 v1,.int .i64 v2,.int .i64 v3,.int .i64 v4,.int .i64 v5,.int .i64 v6,.int .i64 v7,.int .i64 v8,.slice vp0 vl0 vq0,.slice vp1 vl1 vq1,.slice vp2 vl2 vq2,.int .i64 v9,.int .i64 v10,.bool vb]:=by
 obtain ⟨p1,pc1,p2,pc2,p3,pc3,rfl,-⟩:=za2 h;exact ⟨_,_,_,_,_,_,_,_,_,_,_,_,_,_,_,_,_,_,_,_,_,rfl⟩
theorem ziY {w:World} {lo hi:Nat} {d:WorldD} {cs:List Value} (h:OwnT zan w lo hi d cs):∃ v0 v1 v2 v3 v4 v5 v6 v7 v8 vp0 vl0 vq0 vp1 vl1 vq1 vp2 vl2 vq2 v9 v10 vb,cs=[.int .i64 v0,.int .i64 v1,.int .i64 v2,.int .i64 v3,.int .i64 v4,.int .i64 v5,.int .i64 v6,.int .i64 v7,.int .i64 v8,.slice vp0 vl0 vq0,.slice vp1 vl1 vq1,.slice vp2 vl2 vq2,.int .i64 v9,.int .i64 v10,.bool vb]:=ziA h.rd
theorem zdU {K:Int→Prop}:∀ (l:List (Prop×Int)) {x:Int},Stair l K x→K x∨∃ p,p∈l∧x=p.2
 | [],x,h=>.inl h
 | (p,c)::l,x,h=>by
  rcases h with ⟨_,h⟩ | ⟨_,h⟩
  ·exact .inr ⟨(p,c),List.mem_cons_self ..,h⟩
  ·rcases zdU l h with k | ⟨q,hq,k⟩
   ·exact .inl k
   ·exact .inr ⟨q,List.mem_cons_of_mem _ hq,k⟩
theorem ziB {s:Nat→Int} {r:RecD} {x:Int} (h:RecAns s r x):0≤x∧x≤9:=by
 rcases zdU _ h with k | ⟨p,hp,rfl⟩
 ·rw [show x=0 from k];decide
 ·simp at hp
  rcases hp with rfl | rfl | rfl | rfl | rfl | rfl<;>constructor<;>simp
theorem zdq {d:WorldD} {x:Int} (h:WldAns d x):(-9223372036854775808≤x∧x≤9223372036854775807):=by
 have key:0≤x∧x≤9:=by
  rcases zdU _ h with k | ⟨p,hp,rfl⟩
  ·rcases k with ⟨_,k⟩ | ⟨_,k⟩
   ·rcases k with ⟨rfl,_⟩ | ⟨_,t,i,_,_,hr,_⟩
    ·decide
    ·exact ziB hr
   ·rcases zdU _ k with k | ⟨p,hp,rfl⟩
    ·rw [show x=0 from k];decide
    ·simp at hp
     rcases hp with rfl | rfl<;>constructor<;>simp
  ·simp at hp
   rcases hp with rfl | rfl | rfl<;>constructor<;>simp
 omega
theorem zdM {d:WorldD} (h:zbn d≤1048576):∀ t,t<d.tapes.1→∀ i,i<(d.tapes.2 t).recs.1→((d.tapes.2 t).recs.2 i).name.size≤1048576:=fun t ht i hi=>by
 have h1:szSl zaS d.tapes≤1048576:=by unfold zbn at h;omega
 have h2:szSl zaK (d.tapes.2 t).recs≤1048576:=zcm h1 ht;have h3:zaK ((d.tapes.2 t).recs.2 i)≤1048576:=zcm h2 hi;unfold zaK at h3;omega
set_option maxRecDepth 20000 in
theorem zf3 (v:Value) (p:Nat×(Nat→RecD)) (hi:Nat) (w:World) (h:(zab.slice 92).rd w hi p [v]) (hhi:hi≤w.heap.size) (hs:(szSl zaK) p≤1048576) :
 Calls Tryz.prog 31 #[v] w (fun e w'=>∃ cs,e=.returned (.agg cs.toArray)∧OwnT zav w' w.heap.size w'.heap.size ⟨0,p⟩ cs∧Below w.heap.size w w'):=by
 have B0:=zaJ w #[.int .i64 0,.slice none 0 0] 32;have CS:=zgB v p hi (w.alloc (.cells #[.int .i64 0,.slice none 0 0] 32)) (Lay.rd_below _ h B0.bel hhi) (Nat.le_trans hhi B0.bel.size) hs;clear h
 go_enter Tryz.func31,Tryz.ntmps31
 go_wp2_with fail
 refine CS.mono ?_;rintro e w1 ⟨v1,rfl,O1,b1⟩;have HO:=hid (B0.call b1);obtain ⟨a3,c3,rfl⟩:=zfW O1;have z0:w.heap.size<(w.alloc (.cells #[.int .i64 0,.slice none 0 0] 32)).heap.size:=B0.b1.lt;have O2:=ze0 (n:=p.1) (f:=p.2) O1 0 (by decide);have HO2:=hid O2;clear O1 O2 b1 CS B0
 go_wp2_with (refine zb6 32 _ _ rfl rfl (w.heap.size) rfl (cs:=[.int .i64 0,.slice a3 p.1 c3]) rfl (HO.out.b1) zcd rfl rfl (HO2.out.one) ?_;intro w9 X9 C9 z9)
 refine zen Tryz.results31 rfl X9 Tryz.underlying32 zcd rfl rfl ?_;have zz:=C9.size;exact ⟨_,rfl,(HO2.out.chgk C9 (fun b hb=>by simp at hb;omega)).weaken (by omega) zz,HO.out.bel.trans (C9.bel (fun b hb=>by simp at hb;omega) HO.out.bel.size)⟩
set_option maxRecDepth 20000 in
theorem zfd (d:WorldD) (cs:List Value) (hi:Nat) (w:World) (h:zan.rd w hi d cs) (hhi:hi≤w.heap.size) (hsz:zbn d≤1048576) :
 Calls Tryz.prog 9 #[.agg cs.toArray] w (ziv (CountAns d) w):=by
 have h':=h;obtain ⟨ao1,cap1,ao2,cap2,ao3,cap3,rfl,g1,g2,g3,k0,k4,k5⟩:=za2 h';have HRD:=hid h;have HG3:=hid g3;have HSZ:=hid hsz;clear h h' hsz g1 g2 g3 k0 k4 k5;have T0:=zaH w #[.int .i64 (d.shape 0),.int .i64 (d.shape 1),.int .i64 (d.shape 2),.int .i64 (d.shape 3),.int .i64 (d.shape 4),.int .i64 (d.shape 5),.int .i64 (d.shape 6),.int .i64 (d.shape 7),.int .i64 (d.shape 8),.slice ao1 d.groups.1 cap1,.slice ao2 d.on.1 cap2,.slice ao3 d.tapes.1 cap3,.int .i64 d.writes,.int .i64 d.stop,.bool d.down] #[.int .i64 0,.slice none 0 0] 38 32
 go_enter Tryz.func9,Tryz.ntmps9
 go_wp2_with (refine zaF 38 (.tmp 1) rfl rfl (w.heap.size) rfl (T0.b1) Tryz.underlying38 zfI rfl ?_)
 refine (zfa d _ hi _ (zan.rd_below HRD.out T0.bel hhi) (Nat.le_trans hhi T0.bel.size) (zdM HSZ.out)).mono ?_;rintro e w1 ⟨x,rfl,hx,b1⟩;have HT1:=hid (T0.call b1);have HX:=hid hx;have z1:w.heap.size+1<w1.heap.size:=HT1.out.b2.lt;clear b1 T0 hx
 by_cases hx0:x=0
 case neg=>
  have hne:(x != 0)=true:=by simp [hx0]
  go_wp2_with (refine zb6 32 _ _ rfl rfl (w.heap.size+1) rfl (cs:=[.int .i64 x,.slice none 0 0]) rfl (HT1.out.b2) zcd rfl rfl ((zdn w1 x (zdq HX.out) 0 0).one) ?_;intro w9 X9 C9 z9)
  refine zen Tryz.results9 rfl X9 Tryz.underlying32 zcd rfl rfl ?_;have zz:=C9.size;exact ⟨⟨x,(0,fun _=>rec0)⟩,[.int .i64 x,.slice none 0 0],rfl,.inl ⟨x,hx0,HX.out,rfl⟩,zdn w9 x (zdq HX.out) _ _,HT1.out.bel.trans (C9.bel (fun b hb=>by simp at hb;omega) HT1.out.bel.size)⟩
 subst hx0;have HOK:=hid (WldAns.ok HX.out);have h2:d.tapes.1=2:=HOK.out.form.2.2;have hn0:(d.tapes.2 0).recs.1≤400000:=Nat.le_trans (HOK.out.few 0 (by omega)) (by decide);have hn1:(d.tapes.2 1).recs.1≤400000:=Nat.le_trans (HOK.out.few 1 (by omega)) (by decide)
 have x11:w1.cell? ⟨w.heap.size,11,none⟩=some (.slice ao3 2 cap3):=by have:=HT1.out.b1.cell 11;rw [h2] at this;exact this
 have G3:(zaj.slice 88).rd w1 hi (2,d.tapes.2) [.slice ao3 2 cap3]:=by
  have:=Lay.rd_below _ HG3.out HT1.out.bel hhi;rw [h2] at this;rw [show d.tapes=(2,d.tapes.2) from Prod.ext h2 rfl] at this;exact this
 have CC:=zeY d.tapes.2 (.slice ao3 2 cap3) hi w1 G3 (by omega) hn0 hn1;clear G3
 go_wp2_with fail
 refine CC.mono ?_;rintro e w2 ⟨v2,l,ce,lo,rfl,hCt,hlo,V,b2⟩;have HL:=hid hCt;have z2:w1.heap.size≤w2.heap.size:=b2.size;have CT:=zf3 v2 (l.length,fun i=>recT d.tapes.2 2 (l.getD i 0)) w2.heap.size w2 (V.rd (by omega)) (Nat.le_refl _) (zeZ h2 HSZ.out hCt);have HT2:=hid (HT1.out.call b2);obtain ⟨a2,c2,rfl⟩:=V.form;clear V b2 hCt CC HT1 x11
 go_wp2_with fail
 refine CT.mono ?_;rintro e w3 ⟨cs3,rfl,O3,b3⟩;have HT3:=hid (HT2.out.call b3);obtain ⟨a3,c3,rfl⟩:=zdP O3;have HO3:=hid O3;clear O3 b3 CT HT2
 go_wp2_with (refine zb6 32 _ _ rfl rfl (w.heap.size+1) rfl (cs:=[.int .i64 0,.slice a3 l.length c3]) rfl (HT3.out.b2) zcd rfl rfl (HO3.out.one) ?_;intro w9 X9 C9 z9)
 refine zen Tryz.results9 rfl X9 Tryz.underlying32 zcd rfl rfl ?_;have zz:=C9.size;have O9:=(HO3.out.chgk C9 (fun b hb=>by simp at hb;omega)).weaken (lo':=w.heap.size) (hi':=w9.heap.size) (by omega) zz;exact ⟨_,_,rfl,.inr ⟨HX.out,l,HL.out,rfl⟩,O9,HT3.out.bel.trans (C9.bel (fun b hb=>by simp at hb;omega) HT3.out.bel.size)⟩
set_option maxRecDepth 20000 in
theorem zfe (d:WorldD) (cs:List Value) (hi:Nat) (w:World) (h:zan.rd w hi d cs) (hhi:hi≤w.heap.size) (hsz:zbn d≤1048576) :
 Calls Tryz.prog 7 #[.agg cs.toArray] w (ziv (CountAns d) w):=by
 have h':=h;obtain ⟨ao1,cap1,ao2,cap2,ao3,cap3,rfl,g1,g2,g3,k0,k4,k5⟩:=za2 h';have HRD:=hid h;have HG3:=hid g3;have HSZ:=hid hsz;clear h h' hsz g1 g2 g3 k0 k4 k5;have T0:=zaH w (rwW d ao1 cap1 ao2 cap2 ao3 cap3).toArray #[.int .i64 0,.slice none 0 0] 38 32
 go_enter Tryz.func7,Tryz.ntmps7
 go_wp2_with (refine zaF 38 (.tmp 1) rfl rfl (w.heap.size) rfl (T0.b1) Tryz.underlying38 zfI rfl ?_)
 refine (zfb d _ hi _ (zan.rd_below HRD.out T0.bel hhi) (Nat.le_trans hhi T0.bel.size) (zdM HSZ.out)).mono ?_;rintro e w1 ⟨x,rfl,hx,b1⟩;have HT1:=hid (T0.call b1);have HX:=hid hx;have z1:w.heap.size+1<w1.heap.size:=HT1.out.b2.lt;clear b1 T0 hx
 by_cases hx0:x=0
 case neg=>
  have hne:(x != 0)=true:=by simp [hx0]
  go_wp2_with (refine zb6 32 _ _ rfl rfl (w.heap.size+1) rfl (cs:=[.int .i64 x,.slice none 0 0]) rfl (HT1.out.b2) zcd rfl rfl ((zdn w1 x (zdq HX.out) 0 0).one) ?_;intro w9 X9 C9 z9)
  refine zen Tryz.results7 rfl X9 Tryz.underlying32 zcd rfl rfl ?_;have zz:=C9.size;exact ⟨⟨x,(0,fun _=>rec0)⟩,[.int .i64 x,.slice none 0 0],rfl,.inl ⟨x,hx0,HX.out,rfl⟩,zdn w9 x (zdq HX.out) _ _,HT1.out.bel.trans (C9.bel (fun b hb=>by simp at hb;omega) HT1.out.bel.size)⟩
 subst hx0;have HOK:=hid (WldAns.ok HX.out);have h2:d.tapes.1=2:=HOK.out.form.2.2;have hn0:(d.tapes.2 0).recs.1≤400000:=Nat.le_trans (HOK.out.few 0 (by omega)) (by decide);have hn1:(d.tapes.2 1).recs.1≤400000:=Nat.le_trans (HOK.out.few 1 (by omega)) (by decide);have CC:=ze2 d (rwW d ao1 cap1 ao2 cap2 ao3 cap3) hi w.heap.size w1 (zan.rd_below HRD.out HT1.out.bel hhi) (by omega) HT1.out.b1 h2 hn0 hn1
 go_wp2_with fail
 refine CC.mono ?_;rintro e w2 ⟨v2,l,ce,lo,rfl,hCt,hlo,V,b2⟩;have HL:=hid hCt;have z2:w1.heap.size≤w2.heap.size:=b2.size;have CT:=zfc v2 (l.length,fun i=>recT d.tapes.2 2 (l.getD i 0)) w2.heap.size w2 (V.rd (by omega)) (Nat.le_refl _) (zeZ h2 HSZ.out hCt);have HT2:=hid (HT1.out.call b2);obtain ⟨a2,c2,rfl⟩:=V.form;clear V b2 hCt CC HT1
 go_wp2_with fail
 refine CT.mono ?_;rintro e w3 ⟨v3,rfl,O3,b3⟩;have HT3:=hid (HT2.out.call b3);obtain ⟨a3,c3,rfl⟩:=zfW O3;have HO3:Hid (OwnT zav w3 w2.heap.size w3.heap.size ⟨0,(l.length,fun i=>recT d.tapes.2 2 (l.getD i 0))⟩ [.int .i64 0,.slice a3 l.length c3]):=ze0 O3 0 (by decide);clear O3 b3 CT HT2
 go_wp2_with (refine zb6 32 _ _ rfl rfl (w.heap.size+1) rfl (cs:=[.int .i64 0,.slice a3 l.length c3]) rfl (HT3.out.b2) zcd rfl rfl (HO3.out.one) ?_;intro w9 X9 C9 z9)
 refine zen Tryz.results7 rfl X9 Tryz.underlying32 zcd rfl rfl ?_;have zz:=C9.size;have O9:=(HO3.out.chgk C9 (fun b hb=>by simp at hb;omega)).weaken (lo':=w.heap.size) (hi':=w9.heap.size) (by omega) zz;exact ⟨_,_,rfl,.inr ⟨HX.out,l,HL.out,rfl⟩,O9,HT3.out.bel.trans (C9.bel (fun b hb=>by simp at hb;omega) HT3.out.bel.size)⟩
end Go.Proofs.YthcmdnlkohdeaaaGreat
namespace Go.Proofs.YthcmdnlkohdeaaaGreat
open Go.RowKit
section
variable {ops:Array Oper} {Q:Exit→Act→World→Prop} {md:Region.Mode} {S:World→Prop} {L:Nat}
theorem zeI {o:Oper} {a:Act} (T:TypeId) (x:Operand) (ho:o.op=.load T x) (hg:o.guard=none) (b:Nat) (hx:a.eval x=.pointer (some ⟨b,0,none⟩)) {cs:List Value} (hB:∀ w,S w→Box w b cs.toArray T) {fs:Array Field} (hu:Tryz.prog.underlying T=some (.struct fs)) {n:Nat} (hi:(Tryz.prog.info? T).map (·.size)=some n) (hl:cs.length=n):YieldsIf Tryz.prog ops S o (.agg cs.toArray) a:=by
 refine .inl ⟨by simp [Region.wanted,hg],fun w hS=>?_⟩;unfold execOp
 simp only [ho,hx,Instr.loadAt,Instr.sureAddr,Sem.run_bind,Sem.run_pure,Result.andThen_ok,run_loadVar_row w b T T cs.toArray (0,0) (.struct fs) (hB w hS) hu rfl (by rw [hi];simp [hl])]
end
theorem zhS (w:World):Below w.heap.size w w.drew:=⟨rfl,rfl,rfl,Nat.le_refl _,fun _ _=>rfl⟩
end Go.Proofs.YthcmdnlkohdeaaaGreat
namespace Go.Proofs.YthcmdnlkohdeaaaGreat
open Go.RowKit F256
set_option maxRecDepth 20000 in
theorem zeo:EqV zav 10:=fun c1 c2 d h1 h2 w r1 r2 u1 u2=>by
 obtain ⟨ao1,cap1,rfl,g1,-⟩:=zbY r1;obtain ⟨bao1,bcap1,rfl,q1,-⟩:=zbY r2;clear r1 r2;have G1:=hid g1;have E1:=hid q1;clear g1 q1
 go_enter Tryz.func10,Tryz.ntmps10
 go_wp2_with fail
 have T0:=zaH w #[.int .i64 d.code,.slice ao1 d.recs.1 cap1] #[.int .i64 d.code,.slice bao1 d.recs.1 bcap1] 32 32;refine (zfz _ _ d.recs h1 h2 _ ((zab.slice 92).rd_below G1.out T0.bel u1) ((zab.slice 92).rd_below E1.out T0.bel u2) (Nat.le_trans u1 T0.bel.size) (Nat.le_trans u2 T0.bel.size)).mono ?_;rintro e w1 ⟨rfl,b1⟩;have T1:Two w w1 #[.int .i64 d.code,.slice ao1 d.recs.1 cap1] #[.int .i64 d.code,.slice bao1 d.recs.1 bcap1] 32 32:=T0.call b1;clear T0 b1;have B:=hid T1.bel;clear T1;go_wp2;go_ret;exact ⟨rfl,B.out⟩
theorem zdB:MkV zav zba zbK 13:=fun cs d L j w h nd hj=>by
 obtain ⟨ao1,cap1,K1,rfl,hLL,o1,k0⟩:=zc0 h;clear h;have hLM:=hLL.symm;subst hLM;unfold zba at hj ⊢;have Z1:=(zab.slice 92).own_lt o1;have bz:=bAl w (.cells #[.int .i64 d.code,.slice ao1 d.recs.1 cap1] 32);have B0:Hid (Box (w.alloc (.cells #[.int .i64 d.code,.slice ao1 d.recs.1 cap1] 32)) w.heap.size #[.int .i64 d.code,.slice ao1 d.recs.1 cap1] 32):=zax _ _ _;have CH0:Hid (ChgL (K1) w (w.alloc (.cells #[.int .i64 d.code,.slice ao1 d.recs.1 cap1] 32))):=ChgL.of_below bz;have O0_1:Hid ((zab.slice 92).own (w.alloc (.cells #[.int .i64 d.code,.slice ao1 d.recs.1 cap1] 32)) d.recs [.slice ao1 d.recs.1 cap1] K1):=(zab.slice 92).own_kept o1 (fun b hb=>bz.block b (Z1 b hb));clear bz o1
 go_enter Tryz.func13,Tryz.ntmps13
 go_wp2_with fail
 refine (zd4 _ d.recs K1 (j) _ O0_1.out nd (by omega)).mono ?_;rintro e w1 ⟨rfl,p1,q1⟩;have O1_1:=hid p1;have B1:Hid (Box w1 w.heap.size #[.int .i64 d.code,.slice ao1 d.recs.1 cap1] 32):=(q1.block w.heap.size B0.out.lt (fun hb=>by have:=Z1 _ hb;omega)).trans B0.out;have CH1:Hid (ChgL (K1) w w1):=CH0.out.sub q1 (fun b hb=>hb);clear p1 q1;go_wp2;go_ret;exact ⟨zcY (by omega),zdl (zbK j d) O1_1.out k0,CH1.out⟩
theorem zdC:HdV zav zba zbK 14:=fun cs d hi j w h hhi hj=>by
 obtain ⟨ao1,cap1,rfl,r1,-⟩:=zbY h;clear h;unfold zba at hj ⊢;have R1:=hid r1;clear r1
 change Calls Tryz.prog 14 #[.agg #[.int .i64 d.code,.slice ao1 d.recs.1 cap1],.int .i64 j] w _
 go_enter Tryz.func14,Tryz.ntmps14
 go_wp2_with fail
 have T0:=zaJ w #[.int .i64 d.code,.slice ao1 d.recs.1 cap1] 32;refine (zgr _ d.recs hi (j) _ ((zab.slice 92).rd_below R1.out T0.bel hhi) (Nat.le_trans hhi T0.bel.size) (by omega)).mono ?_;rintro e w1 ⟨rfl,b1⟩;have T1:One w w1 #[.int .i64 d.code,.slice ao1 d.recs.1 cap1] 32:=T0.call b1
 have hz1:¬ (((j+(cSl zaN) d.recs:Nat):Int)<0):=by omega
 have HB:=hid T1.bel;clear b1 T1;go_wp2;go_ret;exact ⟨zcY (by omega),HB.out⟩
end Go.Proofs.YthcmdnlkohdeaaaGreat
