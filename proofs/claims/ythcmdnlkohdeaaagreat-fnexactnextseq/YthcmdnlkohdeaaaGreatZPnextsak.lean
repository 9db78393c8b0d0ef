/- Walks of the specification's WorldFault where the form of a world has a fault. -/
import Derived.Test.YthcmdnlkohdeaaaGreatRows
import Derived.Test.YthcmdnlkohdeaaaGreatZPnextsaj
set_option linter.unusedVariables false
set_option linter.unusedSimpArgs false
set_option maxHeartbeats 16000000
namespace Go.Proofs.YthcmdnlkohdeaaaGreat
open Go.RowKit F256
set_option maxRecDepth 20000 in
theorem zfd (d:WorldD) (cs:List Value) (hi:Nat) (w:World) (h:zaj.rd w hi d cs) (hhi:hi≤w.heap.size) (hnm:∀ t,t<d.tapes.1→∀ i,i<(d.tapes.2 t).recs.1→((d.tapes.2 t).recs.2 i).name.size≤1048576) (hok':zai d.shape) (hsel:¬ (zb1 d∧zbm d.on.1 d.on.2 (d.shape 0+d.shape 1-1))) :
 Calls Tryz.prog 23 #[.agg cs.toArray] w (zb8 d w):=by
 obtain ⟨ao1,cap1,ao2,cap2,ao3,cap3,rfl,g1,g2,g3,-⟩:=zaM h;have HRD:=hid h;obtain ⟨v2,e2,⟨h2,hcp2⟩,_⟩:=g2
 cases e2
 have H2:=hid h2;have HCP:=hid hcp2;have hm2:=h2.mx;obtain ⟨_,_,e3,hm3,hc3⟩:=g3
 cases e3
 unfold maxLen at hm2 hm3;have HC3:=hid hc3;have HNM:=hid hnm;clear h h2 hcp2 hc3 g1 hnm;have T0:=zaB w (rwW d ao1 cap1 ao2 cap2 ao3 cap3).toArray 38;have CSh:=fun w'=>zaZ d.shape w';unfold zac at CSh
 go_enter Tryz.func23,Tryz.ntmps23
 go_wp2_with fail
 refine (CSh _).mono ?_;rintro e w1 ⟨x,rfl,hx,b1⟩;have T1:One w w1 (rwW d ao1 cap1 ao2 cap2 ao3 cap3).toArray 38:=T0.call b1;have HT1:=hid T1;clear b1 T0 CSh;have x1_0:w1.cell? ⟨w.heap.size,0,none⟩=some (.int .i64 (d.shape 0)):=T1.b1.cell 0;have kx1_0:=cell_regrown x1_0;have x1_1:w1.cell? ⟨w.heap.size,1,none⟩=some (.int .i64 (d.shape 1)):=T1.b1.cell 1;have kx1_1:=cell_regrown x1_1;have x1_2:w1.cell? ⟨w.heap.size,2,none⟩=some (.int .i64 (d.shape 2)):=T1.b1.cell 2;have kx1_2:=cell_regrown x1_2;have x1_3:w1.cell? ⟨w.heap.size,3,none⟩=some (.int .i64 (d.shape 3)):=T1.b1.cell 3;have kx1_3:=cell_regrown x1_3;have x1_4:w1.cell? ⟨w.heap.size,4,none⟩=some (.int .i64 (d.shape 4)):=T1.b1.cell 4;have kx1_4:=cell_regrown x1_4;have x1_5:w1.cell? ⟨w.heap.size,5,none⟩=some (.int .i64 (d.shape 5)):=T1.b1.cell 5;have kx1_5:=cell_regrown x1_5;have x1_6:w1.cell? ⟨w.heap.size,6,none⟩=some (.int .i64 (d.shape 6)):=T1.b1.cell 6;have kx1_6:=cell_regrown x1_6;have x1_7:w1.cell? ⟨w.heap.size,7,none⟩=some (.int .i64 (d.shape 7)):=T1.b1.cell 7;have kx1_7:=cell_regrown x1_7;have x1_8:w1.cell? ⟨w.heap.size,8,none⟩=some (.int .i64 (d.shape 8)):=T1.b1.cell 8;have kx1_8:=cell_regrown x1_8;have x1_9:w1.cell? ⟨w.heap.size,9,none⟩=some (.slice ao1 d.groups.1 cap1):=T1.b1.cell 9;have kx1_9:=cell_regrown x1_9;have x1_10:w1.cell? ⟨w.heap.size,10,none⟩=some (.slice ao2 d.on.1 cap2):=T1.b1.cell 10;have kx1_10:=cell_regrown x1_10;have x1_11:w1.cell? ⟨w.heap.size,11,none⟩=some (.slice ao3 d.tapes.1 cap3):=T1.b1.cell 11;have kx1_11:=cell_regrown x1_11;have x1_12:w1.cell? ⟨w.heap.size,12,none⟩=some (.int .i64 d.writes):=T1.b1.cell 12;have kx1_12:=cell_regrown x1_12;have x1_13:w1.cell? ⟨w.heap.size,13,none⟩=some (.int .i64 d.stop):=T1.b1.cell 13;have kx1_13:=cell_regrown x1_13;have x1_14:w1.cell? ⟨w.heap.size,14,none⟩=some (.bool d.down):=T1.b1.cell 14;have kx1_14:=cell_regrown x1_14;clear T1
 rcases hx with ⟨rfl,hno⟩ | ⟨rfl,hok⟩
 ·go_wp2
  go_ret;exact wldP rfl (Stair.fall hno) HT1.out.bel
 have HOK:=hid hok
 have hsb:1≤d.shape 0∧d.shape 0≤4∧0≤d.shape 1∧d.shape 1≤2:=by
  obtain ⟨h1,_⟩:=hok;unfold Shp3 at h1;omega
 clear hok;obtain ⟨t1,h1⟩:=exB (zb1 d);obtain ⟨t2,h2⟩:=exB (zbm d.on.1 d.on.2 (d.shape 0+d.shape 1-1));obtain ⟨b3',h3⟩:∃ b,decide (d.shape 5<(d.on.1:Int))=b:=⟨_,rfl⟩;obtain ⟨g',h4⟩:∃ b,decide (0<d.on.1)=b:=⟨_,rfl⟩;obtain ⟨b5',h5⟩:∃ b,((d.tapes.1:Int) != 2)=b:=⟨_,rfl⟩;have c1:=zav (W:=w1) (fun w' hw'=>za0 (zbZ d HOK.out _ hi w' (zaj.rd_below (zaj.rd_below HRD.out HT1.out.bel hhi) hw' (Nat.le_trans hhi HT1.out.bel.size)) (Nat.le_trans hhi (Nat.le_trans HT1.out.bel.size hw'.size))) h1);have c2:=zav (W:=w1) (fun w' hw'=>za0 (zbC _ d.on.1 d.on.2 hi (d.shape 0+d.shape 1-1) w' ((H2.out.below HT1.out.bel hhi).below hw' (Nat.le_trans hhi HT1.out.bel.size)) HCP.out (Nat.le_trans hhi (Nat.le_trans HT1.out.bel.size hw'.size))) h2);have cA:=zav (W:=w1) (fun w' _=>zbn d.shape HOK.out w');unfold zac at cA
 have wsA:IntKind.i64.wrap (d.shape 0+d.shape 1-1)=d.shape 0+d.shape 1-1:=by rw [IntKind.wrap_i64];omega
 have h4':decide (0<(d.on.1:Int))=g':=by rw [← h4];simp
 obtain ⟨dn,hdn⟩:∃ x,x=d.down:=⟨_,rfl⟩
 have HE:Hid (zbR d↔(t1=true∧t2=true∧b3'=false∧(dn=true→g'=false)∧b5'=false)):=by
  show zbR d↔_
  have e3:(decide (d.shape 5<(d.on.1:Int))=false)↔(d.on.1:Int)≤d.shape 5:=by simp
  have e4:(decide (0<d.on.1)=false)↔d.on.1=0:=by simp
  have e5:(((d.tapes.1:Int) != 2)=false)↔d.tapes.1=2:=by simp;omega
  rw [h1,h2,← h3,← h4,← h5,hdn,e3,e4,e5];unfold zbR OnP
  constructor
  ·rintro ⟨a,⟨b,c,e⟩,f⟩
   exact ⟨a,b,c,e,f⟩
  ·rintro ⟨a,b,c,e,f⟩
   exact ⟨a,⟨b,c,e⟩,f⟩
 have hst:t1=false∨(t1=true∧t2=false):=by
  clear HE c1 c2
  cases t1 with
  | false=>exact .inl rfl
  | true=>
   cases t2 with
   | false=>exact .inr ⟨rfl,rfl⟩
   | true=>exact absurd ⟨h1.1 rfl,h2.1 rfl⟩ hsel
 have HNF:Hid (¬ zbR d):=fun h=>by
  obtain ⟨a,⟨b,c,e⟩,f⟩:=h;exact hsel ⟨a,b⟩
 rw [← hdn] at x1_14 kx1_14 c1;clear h1 h2 hsel hok'
 go_upto_region 4 with fail
 clear hdn
 rcases hst with rfl | ⟨rfl,rfl⟩
 all_goals
  refine WQ.region (by kernel_rfl) (by kernel_rfl) ?_
  repeat (first | (apply WQ.free;(case hw=>rfl);intro K hK;go_simp;first | (apply hK;clear hK K) | (apply Exists.intro;apply And.intro;(case left=>intro p;(first | (go_at_call 52;exact c1 _ _) | (go_at_call 53;exact c2 _ _) | (go_at_call 54;exact cA _ _)));apply hK;clear hK K)) | (apply WQ.skip;(case hw=>rfl);intro K hK;go_simp;apply hK;clear hK K) | (apply WQ.want;(case hw=>rfl);intro K hK;go_simp;first | (apply hK;clear hK K) | (apply Exists.intro;apply And.intro;(case left=>intro p;(first | (go_at_call 52;exact c1 _ _) | (go_at_call 53;exact c2 _ _) | (go_at_call 54;exact cA _ _)));apply hK;clear hK K)))
  refine WQ.nil ?_;intro w2 hw2;have HB2:Hid (Below w.heap.size w w2):=(HT1.out.call (zaC hw2)).bel;clear hw2;go_wp2;go_ret;exact wldP rfl (Stair.pass HOK.out (Stair.fall HNF.out)) HB2.out
set_option maxRecDepth 20000 in
theorem zfe (d:WorldD) (cs:List Value) (hi:Nat) (w:World) (h:zaj.rd w hi d cs) (hhi:hi≤w.heap.size) (hnm:∀ t,t<d.tapes.1→∀ i,i<(d.tapes.2 t).recs.1→((d.tapes.2 t).recs.2 i).name.size≤1048576) (hok':zai d.shape) (hsel:zb1 d∧zbm d.on.1 d.on.2 (d.shape 0+d.shape 1-1)∧¬ ((d.on.1:Int)≤d.shape 5∧(d.down=true→d.on.1=0))) :
 Calls Tryz.prog 23 #[.agg cs.toArray] w (zb8 d w):=by
 obtain ⟨ao1,cap1,ao2,cap2,ao3,cap3,rfl,g1,g2,g3,-⟩:=zaM h;have HRD:=hid h;obtain ⟨v2,e2,⟨h2,hcp2⟩,_⟩:=g2
 cases e2
 have H2:=hid h2;have HCP:=hid hcp2;have hm2:=h2.mx;obtain ⟨_,_,e3,hm3,hc3⟩:=g3
 cases e3
 unfold maxLen at hm2 hm3;have HC3:=hid hc3;have HNM:=hid hnm;clear h h2 hcp2 hc3 g1 hnm;have T0:=zaB w (rwW d ao1 cap1 ao2 cap2 ao3 cap3).toArray 38;have CSh:=fun w'=>zaZ d.shape w';unfold zac at CSh
 go_enter Tryz.func23,Tryz.ntmps23
 go_wp2_with fail
 refine (CSh _).mono ?_;rintro e w1 ⟨x,rfl,hx,b1⟩;have T1:One w w1 (rwW d ao1 cap1 ao2 cap2 ao3 cap3).toArray 38:=T0.call b1;have HT1:=hid T1;clear b1 T0 CSh;have x1_0:w1.cell? ⟨w.heap.size,0,none⟩=some (.int .i64 (d.shape 0)):=T1.b1.cell 0;have kx1_0:=cell_regrown x1_0;have x1_1:w1.cell? ⟨w.heap.size,1,none⟩=some (.int .i64 (d.shape 1)):=T1.b1.cell 1;have kx1_1:=cell_regrown x1_1;have x1_2:w1.cell? ⟨w.heap.size,2,none⟩=some (.int .i64 (d.shape 2)):=T1.b1.cell 2;have kx1_2:=cell_regrown x1_2;have x1_3:w1.cell? ⟨w.heap.size,3,none⟩=some (.int .i64 (d.shape 3)):=T1.b1.cell 3;have kx1_3:=cell_regrown x1_3;have x1_4:w1.cell? ⟨w.heap.size,4,none⟩=some (.int .i64 (d.shape 4)):=T1.b1.cell 4;have kx1_4:=cell_regrown x1_4;have x1_5:w1.cell? ⟨w.heap.size,5,none⟩=some (.int .i64 (d.shape 5)):=T1.b1.cell 5;have kx1_5:=cell_regrown x1_5;have x1_6:w1.cell? ⟨w.heap.size,6,none⟩=some (.int .i64 (d.shape 6)):=T1.b1.cell 6;have kx1_6:=cell_regrown x1_6;have x1_7:w1.cell? ⟨w.heap.size,7,none⟩=some (.int .i64 (d.shape 7)):=T1.b1.cell 7;have kx1_7:=cell_regrown x1_7;have x1_8:w1.cell? ⟨w.heap.size,8,none⟩=some (.int .i64 (d.shape 8)):=T1.b1.cell 8;have kx1_8:=cell_regrown x1_8;have x1_9:w1.cell? ⟨w.heap.size,9,none⟩=some (.slice ao1 d.groups.1 cap1):=T1.b1.cell 9;have kx1_9:=cell_regrown x1_9;have x1_10:w1.cell? ⟨w.heap.size,10,none⟩=some (.slice ao2 d.on.1 cap2):=T1.b1.cell 10;have kx1_10:=cell_regrown x1_10;have x1_11:w1.cell? ⟨w.heap.size,11,none⟩=some (.slice ao3 d.tapes.1 cap3):=T1.b1.cell 11;have kx1_11:=cell_regrown x1_11;have x1_12:w1.cell? ⟨w.heap.size,12,none⟩=some (.int .i64 d.writes):=T1.b1.cell 12;have kx1_12:=cell_regrown x1_12;have x1_13:w1.cell? ⟨w.heap.size,13,none⟩=some (.int .i64 d.stop):=T1.b1.cell 13;have kx1_13:=cell_regrown x1_13;have x1_14:w1.cell? ⟨w.heap.size,14,none⟩=some (.bool d.down):=T1.b1.cell 14;have kx1_14:=cell_regrown x1_14;clear T1
 rcases hx with ⟨rfl,hno⟩ | ⟨rfl,hok⟩
 ·go_wp2
  go_ret;exact wldP rfl (Stair.fall hno) HT1.out.bel
 have HOK:=hid hok
 have hsb:1≤d.shape 0∧d.shape 0≤4∧0≤d.shape 1∧d.shape 1≤2:=by
  obtain ⟨h1,_⟩:=hok;unfold Shp3 at h1;omega
 clear hok;obtain ⟨t1,h1⟩:=exB (zb1 d);obtain ⟨t2,h2⟩:=exB (zbm d.on.1 d.on.2 (d.shape 0+d.shape 1-1));obtain ⟨b3',h3⟩:∃ b,decide (d.shape 5<(d.on.1:Int))=b:=⟨_,rfl⟩;obtain ⟨g',h4⟩:∃ b,decide (0<d.on.1)=b:=⟨_,rfl⟩;obtain ⟨b5',h5⟩:∃ b,((d.tapes.1:Int) != 2)=b:=⟨_,rfl⟩;have c1:=zav (W:=w1) (fun w' hw'=>za0 (zbZ d HOK.out _ hi w' (zaj.rd_below (zaj.rd_below HRD.out HT1.out.bel hhi) hw' (Nat.le_trans hhi HT1.out.bel.size)) (Nat.le_trans hhi (Nat.le_trans HT1.out.bel.size hw'.size))) h1);have c2:=zav (W:=w1) (fun w' hw'=>za0 (zbC _ d.on.1 d.on.2 hi (d.shape 0+d.shape 1-1) w' ((H2.out.below HT1.out.bel hhi).below hw' (Nat.le_trans hhi HT1.out.bel.size)) HCP.out (Nat.le_trans hhi (Nat.le_trans HT1.out.bel.size hw'.size))) h2);have cA:=zav (W:=w1) (fun w' _=>zbn d.shape HOK.out w');unfold zac at cA
 have wsA:IntKind.i64.wrap (d.shape 0+d.shape 1-1)=d.shape 0+d.shape 1-1:=by rw [IntKind.wrap_i64];omega
 have h4':decide (0<(d.on.1:Int))=g':=by rw [← h4];simp
 obtain ⟨dn,hdn⟩:∃ x,x=d.down:=⟨_,rfl⟩
 have HE:Hid (zbR d↔(t1=true∧t2=true∧b3'=false∧(dn=true→g'=false)∧b5'=false)):=by
  show zbR d↔_
  have e3:(decide (d.shape 5<(d.on.1:Int))=false)↔(d.on.1:Int)≤d.shape 5:=by simp
  have e4:(decide (0<d.on.1)=false)↔d.on.1=0:=by simp
  have e5:(((d.tapes.1:Int) != 2)=false)↔d.tapes.1=2:=by simp;omega
  rw [h1,h2,← h3,← h4,← h5,hdn,e3,e4,e5];unfold zbR OnP
  constructor
  ·rintro ⟨a,⟨b,c,e⟩,f⟩
   exact ⟨a,b,c,e,f⟩
  ·rintro ⟨a,b,c,e,f⟩
   exact ⟨a,⟨b,c,e⟩,f⟩
 have hst:(t1=true∧t2=true∧b3'=true)∨(t1=true∧t2=true∧b3'=false∧dn=true∧g'=true):=by
  clear HE c1 c2;have e1:=h1.2 hsel.1;have e2:=h2.2 hsel.2.1
  cases b3' with
  | true=>exact .inl ⟨e1,e2,rfl⟩
  | false=>
   have hc:(d.on.1:Int)≤d.shape 5:=by simpa using h3
   have hd:dn=true:=by
    cases dn with
    | true=>rfl
    | false=>exact absurd ⟨hc,fun h=>by rw [← hdn] at h;cases h⟩ hsel.2.2
   have hg:g'=true:=by
    cases g' with
    | true=>rfl
    | false=>exact absurd ⟨hc,fun _=>by simpa using h4⟩ hsel.2.2
   exact .inr ⟨e1,e2,rfl,hd,hg⟩
 have HNF:Hid (¬ zbR d):=fun h=>by
  obtain ⟨a,⟨b,c,e⟩,f⟩:=h;exact hsel.2.2 ⟨c,e⟩
 rw [← hdn] at x1_14 kx1_14 c1;clear h1 h2 hsel hok'
 go_upto_region 4 with fail
 clear hdn
 rcases hst with ⟨rfl,rfl,rfl⟩ | ⟨rfl,rfl,rfl,rfl,rfl⟩
 all_goals
  refine WQ.region (by kernel_rfl) (by kernel_rfl) ?_
  repeat (first | (apply WQ.free;(case hw=>rfl);intro K hK;go_simp;first | (apply hK;clear hK K) | (apply Exists.intro;apply And.intro;(case left=>intro p;(first | (go_at_call 52;exact c1 _ _) | (go_at_call 53;exact c2 _ _) | (go_at_call 54;exact cA _ _)));apply hK;clear hK K)) | (apply WQ.skip;(case hw=>rfl);intro K hK;go_simp;apply hK;clear hK K) | (apply WQ.want;(case hw=>rfl);intro K hK;go_simp;first | (apply hK;clear hK K) | (apply Exists.intro;apply And.intro;(case left=>intro p;(first | (go_at_call 52;exact c1 _ _) | (go_at_call 53;exact c2 _ _) | (go_at_call 54;exact cA _ _)));apply hK;clear hK K)))
  refine WQ.nil ?_;intro w2 hw2;have HB2:Hid (Below w.heap.size w w2):=(HT1.out.call (zaC hw2)).bel;clear hw2;go_wp2;go_ret;exact wldP rfl (Stair.pass HOK.out (Stair.fall HNF.out)) HB2.out
set_option maxRecDepth 20000 in
theorem zff (d:WorldD) (cs:List Value) (hi:Nat) (w:World) (h:zaj.rd w hi d cs) (hhi:hi≤w.heap.size) (hnm:∀ t,t<d.tapes.1→∀ i,i<(d.tapes.2 t).recs.1→((d.tapes.2 t).recs.2 i).name.size≤1048576) (hok':zai d.shape) (hsel:zb1 d∧zbm d.on.1 d.on.2 (d.shape 0+d.shape 1-1)∧((d.on.1:Int)≤d.shape 5∧(d.down=true→d.on.1=0))∧d.tapes.1≠2) :
 Calls Tryz.prog 23 #[.agg cs.toArray] w (zb8 d w):=by
 obtain ⟨ao1,cap1,ao2,cap2,ao3,cap3,rfl,g1,g2,g3,-⟩:=zaM h;have HRD:=hid h;obtain ⟨v2,e2,⟨h2,hcp2⟩,_⟩:=g2
 cases e2
 have H2:=hid h2;have HCP:=hid hcp2;have hm2:=h2.mx;obtain ⟨_,_,e3,hm3,hc3⟩:=g3
 cases e3
 unfold maxLen at hm2 hm3;have HC3:=hid hc3;have HNM:=hid hnm;clear h h2 hcp2 hc3 g1 hnm;have T0:=zaB w (rwW d ao1 cap1 ao2 cap2 ao3 cap3).toArray 38;have CSh:=fun w'=>zaZ d.shape w';unfold zac at CSh
 go_enter Tryz.func23,Tryz.ntmps23
 go_wp2_with fail
 refine (CSh _).mono ?_;rintro e w1 ⟨x,rfl,hx,b1⟩;have T1:One w w1 (rwW d ao1 cap1 ao2 cap2 ao3 cap3).toArray 38:=T0.call b1;have HT1:=hid T1;clear b1 T0 CSh;have x1_0:w1.cell? ⟨w.heap.size,0,none⟩=some (.int .i64 (d.shape 0)):=T1.b1.cell 0;have kx1_0:=cell_regrown x1_0;have x1_1:w1.cell? ⟨w.heap.size,1,none⟩=some (.int .i64 (d.shape 1)):=T1.b1.cell 1;have kx1_1:=cell_regrown x1_1;have x1_2:w1.cell? ⟨w.heap.size,2,none⟩=some (.int .i64 (d.shape 2)):=T1.b1.cell 2;have kx1_2:=cell_regrown x1_2;have x1_3:w1.cell? ⟨w.heap.size,3,none⟩=some (.int .i64 (d.shape 3)):=T1.b1.cell 3;have kx1_3:=cell_regrown x1_3;have x1_4:w1.cell? ⟨w.heap.size,4,none⟩=some (.int .i64 (d.shape 4)):=T1.b1.cell 4;have kx1_4:=cell_regrown x1_4;have x1_5:w1.cell? ⟨w.heap.size,5,none⟩=some (.int .i64 (d.shape 5)):=T1.b1.cell 5;have kx1_5:=cell_regrown x1_5;have x1_6:w1.cell? ⟨w.heap.size,6,none⟩=some (.int .i64 (d.shape 6)):=T1.b1.cell 6;have kx1_6:=cell_regrown x1_6;have x1_7:w1.cell? ⟨w.heap.size,7,none⟩=some (.int .i64 (d.shape 7)):=T1.b1.cell 7;have kx1_7:=cell_regrown x1_7;have x1_8:w1.cell? ⟨w.heap.size,8,none⟩=some (.int .i64 (d.shape 8)):=T1.b1.cell 8;have kx1_8:=cell_regrown x1_8;have x1_9:w1.cell? ⟨w.heap.size,9,none⟩=some (.slice ao1 d.groups.1 cap1):=T1.b1.cell 9;have kx1_9:=cell_regrown x1_9;have x1_10:w1.cell? ⟨w.heap.size,10,none⟩=some (.slice ao2 d.on.1 cap2):=T1.b1.cell 10;have kx1_10:=cell_regrown x1_10;have x1_11:w1.cell? ⟨w.heap.size,11,none⟩=some (.slice ao3 d.tapes.1 cap3):=T1.b1.cell 11;have kx1_11:=cell_regrown x1_11;have x1_12:w1.cell? ⟨w.heap.size,12,none⟩=some (.int .i64 d.writes):=T1.b1.cell 12;have kx1_12:=cell_regrown x1_12;have x1_13:w1.cell? ⟨w.heap.size,13,none⟩=some (.int .i64 d.stop):=T1.b1.cell 13;have kx1_13:=cell_regrown x1_13;have x1_14:w1.cell? ⟨w.heap.size,14,none⟩=some (.bool d.down):=T1.b1.cell 14;have kx1_14:=cell_regrown x1_14;clear T1
 rcases hx with ⟨rfl,hno⟩ | ⟨rfl,hok⟩
 ·go_wp2
  go_ret;exact wldP rfl (Stair.fall hno) HT1.out.bel
 have HOK:=hid hok
 have hsb:1≤d.shape 0∧d.shape 0≤4∧0≤d.shape 1∧d.shape 1≤2:=by
  obtain ⟨h1,_⟩:=hok;unfold Shp3 at h1;omega
 clear hok;obtain ⟨t1,h1⟩:=exB (zb1 d);obtain ⟨t2,h2⟩:=exB (zbm d.on.1 d.on.2 (d.shape 0+d.shape 1-1));obtain ⟨b3',h3⟩:∃ b,decide (d.shape 5<(d.on.1:Int))=b:=⟨_,rfl⟩;obtain ⟨g',h4⟩:∃ b,decide (0<d.on.1)=b:=⟨_,rfl⟩;obtain ⟨b5',h5⟩:∃ b,((d.tapes.1:Int) != 2)=b:=⟨_,rfl⟩;have c1:=zav (W:=w1) (fun w' hw'=>za0 (zbZ d HOK.out _ hi w' (zaj.rd_below (zaj.rd_below HRD.out HT1.out.bel hhi) hw' (Nat.le_trans hhi HT1.out.bel.size)) (Nat.le_trans hhi (Nat.le_trans HT1.out.bel.size hw'.size))) h1);have c2:=zav (W:=w1) (fun w' hw'=>za0 (zbC _ d.on.1 d.on.2 hi (d.shape 0+d.shape 1-1) w' ((H2.out.below HT1.out.bel hhi).below hw' (Nat.le_trans hhi HT1.out.bel.size)) HCP.out (Nat.le_trans hhi (Nat.le_trans HT1.out.bel.size hw'.size))) h2);have cA:=zav (W:=w1) (fun w' _=>zbn d.shape HOK.out w');unfold zac at cA
 have wsA:IntKind.i64.wrap (d.shape 0+d.shape 1-1)=d.shape 0+d.shape 1-1:=by rw [IntKind.wrap_i64];omega
 have h4':decide (0<(d.on.1:Int))=g':=by rw [← h4];simp
 obtain ⟨dn,hdn⟩:∃ x,x=d.down:=⟨_,rfl⟩
 have HE:Hid (zbR d↔(t1=true∧t2=true∧b3'=false∧(dn=true→g'=false)∧b5'=false)):=by
  show zbR d↔_
  have e3:(decide (d.shape 5<(d.on.1:Int))=false)↔(d.on.1:Int)≤d.shape 5:=by simp
  have e4:(decide (0<d.on.1)=false)↔d.on.1=0:=by simp
  have e5:(((d.tapes.1:Int) != 2)=false)↔d.tapes.1=2:=by simp;omega
  rw [h1,h2,← h3,← h4,← h5,hdn,e3,e4,e5];unfold zbR OnP
  constructor
  ·rintro ⟨a,⟨b,c,e⟩,f⟩
   exact ⟨a,b,c,e,f⟩
  ·rintro ⟨a,b,c,e,f⟩
   exact ⟨a,⟨b,c,e⟩,f⟩
 have hst:(t1=true∧t2=true∧b3'=false∧dn=true∧g'=false∧b5'=true)∨(t1=true∧t2=true∧b3'=false∧dn=false∧b5'=true):=by
  clear HE c1 c2;have e1:=h1.2 hsel.1;have e2:=h2.2 hsel.2.1
  have e3:b3'=false:=by rw [← h3];simpa using hsel.2.2.1.1
  have e5:b5'=true:=by rw [← h5];have:=hsel.2.2.2;simp;omega
  cases dn with
  | false=>exact .inr ⟨e1,e2,e3,rfl,e5⟩
  | true=>exact .inl ⟨e1,e2,e3,rfl,by rw [← h4];have:=hsel.2.2.1.2 hdn.symm;simp;omega,e5⟩
 have HNF:Hid (¬ zbR d):=fun h=>by
  obtain ⟨a,⟨b,c,e⟩,f⟩:=h;exact hsel.2.2.2 f
 rw [← hdn] at x1_14 kx1_14 c1;clear h1 h2 hsel hok'
 go_upto_region 4 with fail
 clear hdn
 rcases hst with ⟨rfl,rfl,rfl,rfl,rfl,rfl⟩ | ⟨rfl,rfl,rfl,rfl,rfl⟩
 all_goals
  refine WQ.region (by kernel_rfl) (by kernel_rfl) ?_
  repeat (first | (apply WQ.free;(case hw=>rfl);intro K hK;go_simp;first | (apply hK;clear hK K) | (apply Exists.intro;apply And.intro;(case left=>intro p;(first | (go_at_call 52;exact c1 _ _) | (go_at_call 53;exact c2 _ _) | (go_at_call 54;exact cA _ _)));apply hK;clear hK K)) | (apply WQ.skip;(case hw=>rfl);intro K hK;go_simp;apply hK;clear hK K) | (apply WQ.want;(case hw=>rfl);intro K hK;go_simp;first | (apply hK;clear hK K) | (apply Exists.intro;apply And.intro;(case left=>intro p;(first | (go_at_call 52;exact c1 _ _) | (go_at_call 53;exact c2 _ _) | (go_at_call 54;exact cA _ _)));apply hK;clear hK K)))
  refine WQ.nil ?_;intro w2 hw2;have HB2:Hid (Below w.heap.size w w2):=(HT1.out.call (zaC hw2)).bel;clear hw2;go_wp2;go_ret;exact wldP rfl (Stair.pass HOK.out (Stair.fall HNF.out)) HB2.out
set_option maxRecDepth 20000 in
theorem zfg (d:WorldD) (cs:List Value) (hi:Nat) (w:World) (h:zaj.rd w hi d cs) (hhi:hi≤w.heap.size) (hnm:∀ t,t<d.tapes.1→∀ i,i<(d.tapes.2 t).recs.1→((d.tapes.2 t).recs.2 i).name.size≤1048576) (hok':zai d.shape) (hsel:zbR d) :
 Calls Tryz.prog 23 #[.agg cs.toArray] w (zb8 d w):=by
 obtain ⟨ao1,cap1,ao2,cap2,ao3,cap3,rfl,g1,g2,g3,-⟩:=zaM h;have HRD:=hid h;obtain ⟨v2,e2,⟨h2,hcp2⟩,_⟩:=g2
 cases e2
 have H2:=hid h2;have HCP:=hid hcp2;have hm2:=h2.mx;obtain ⟨_,_,e3,hm3,hc3⟩:=g3
 cases e3
 unfold maxLen at hm2 hm3;have HC3:=hid hc3;have HNM:=hid hnm;clear h h2 hcp2 hc3 g1 hnm;have T0:=zaB w (rwW d ao1 cap1 ao2 cap2 ao3 cap3).toArray 38;have CSh:=fun w'=>zaZ d.shape w';unfold zac at CSh
 go_enter Tryz.func23,Tryz.ntmps23
 go_wp2_with fail
 refine (CSh _).mono ?_;rintro e w1 ⟨x,rfl,hx,b1⟩;have T1:One w w1 (rwW d ao1 cap1 ao2 cap2 ao3 cap3).toArray 38:=T0.call b1;have HT1:=hid T1;clear b1 T0 CSh;have x1_0:w1.cell? ⟨w.heap.size,0,none⟩=some (.int .i64 (d.shape 0)):=T1.b1.cell 0;have kx1_0:=cell_regrown x1_0;have x1_1:w1.cell? ⟨w.heap.size,1,none⟩=some (.int .i64 (d.shape 1)):=T1.b1.cell 1;have kx1_1:=cell_regrown x1_1;have x1_2:w1.cell? ⟨w.heap.size,2,none⟩=some (.int .i64 (d.shape 2)):=T1.b1.cell 2;have kx1_2:=cell_regrown x1_2;have x1_3:w1.cell? ⟨w.heap.size,3,none⟩=some (.int .i64 (d.shape 3)):=T1.b1.cell 3;have kx1_3:=cell_regrown x1_3;have x1_4:w1.cell? ⟨w.heap.size,4,none⟩=some (.int .i64 (d.shape 4)):=T1.b1.cell 4;have kx1_4:=cell_regrown x1_4;have x1_5:w1.cell? ⟨w.heap.size,5,none⟩=some (.int .i64 (d.shape 5)):=T1.b1.cell 5;have kx1_5:=cell_regrown x1_5;have x1_6:w1.cell? ⟨w.heap.size,6,none⟩=some (.int .i64 (d.shape 6)):=T1.b1.cell 6;have kx1_6:=cell_regrown x1_6;have x1_7:w1.cell? ⟨w.heap.size,7,none⟩=some (.int .i64 (d.shape 7)):=T1.b1.cell 7;have kx1_7:=cell_regrown x1_7;have x1_8:w1.cell? ⟨w.heap.size,8,none⟩=some (.int .i64 (d.shape 8)):=T1.b1.cell 8;have kx1_8:=cell_regrown x1_8;have x1_9:w1.cell? ⟨w.heap.size,9,none⟩=some (.slice ao1 d.groups.1 cap1):=T1.b1.cell 9;have kx1_9:=cell_regrown x1_9;have x1_10:w1.cell? ⟨w.heap.size,10,none⟩=some (.slice ao2 d.on.1 cap2):=T1.b1.cell 10;have kx1_10:=cell_regrown x1_10;have x1_11:w1.cell? ⟨w.heap.size,11,none⟩=some (.slice ao3 d.tapes.1 cap3):=T1.b1.cell 11;have kx1_11:=cell_regrown x1_11;have x1_12:w1.cell? ⟨w.heap.size,12,none⟩=some (.int .i64 d.writes):=T1.b1.cell 12;have kx1_12:=cell_regrown x1_12;have x1_13:w1.cell? ⟨w.heap.size,13,none⟩=some (.int .i64 d.stop):=T1.b1.cell 13;have kx1_13:=cell_regrown x1_13;have x1_14:w1.cell? ⟨w.heap.size,14,none⟩=some (.bool d.down):=T1.b1.cell 14;have kx1_14:=cell_regrown x1_14;clear T1
 rcases hx with ⟨rfl,hno⟩ | ⟨rfl,hok⟩
 ·go_wp2
  go_ret;exact wldP rfl (Stair.fall hno) HT1.out.bel
 have HOK:=hid hok
 have hsb:1≤d.shape 0∧d.shape 0≤4∧0≤d.shape 1∧d.shape 1≤2:=by
  obtain ⟨h1,_⟩:=hok;unfold Shp3 at h1;omega
 clear hok;obtain ⟨t1,h1⟩:=exB (zb1 d);obtain ⟨t2,h2⟩:=exB (zbm d.on.1 d.on.2 (d.shape 0+d.shape 1-1));obtain ⟨b3',h3⟩:∃ b,decide (d.shape 5<(d.on.1:Int))=b:=⟨_,rfl⟩;obtain ⟨g',h4⟩:∃ b,decide (0<d.on.1)=b:=⟨_,rfl⟩;obtain ⟨b5',h5⟩:∃ b,((d.tapes.1:Int) != 2)=b:=⟨_,rfl⟩;have c1:=zav (W:=w1) (fun w' hw'=>za0 (zbZ d HOK.out _ hi w' (zaj.rd_below (zaj.rd_below HRD.out HT1.out.bel hhi) hw' (Nat.le_trans hhi HT1.out.bel.size)) (Nat.le_trans hhi (Nat.le_trans HT1.out.bel.size hw'.size))) h1);have c2:=zav (W:=w1) (fun w' hw'=>za0 (zbC _ d.on.1 d.on.2 hi (d.shape 0+d.shape 1-1) w' ((H2.out.below HT1.out.bel hhi).below hw' (Nat.le_trans hhi HT1.out.bel.size)) HCP.out (Nat.le_trans hhi (Nat.le_trans HT1.out.bel.size hw'.size))) h2);have cA:=zav (W:=w1) (fun w' _=>zbn d.shape HOK.out w');unfold zac at cA
 have wsA:IntKind.i64.wrap (d.shape 0+d.shape 1-1)=d.shape 0+d.shape 1-1:=by rw [IntKind.wrap_i64];omega
 have h4':decide (0<(d.on.1:Int))=g':=by rw [← h4];simp
 obtain ⟨dn,hdn⟩:∃ x,x=d.down:=⟨_,rfl⟩
 have HE:Hid (zbR d↔(t1=true∧t2=true∧b3'=false∧(dn=true→g'=false)∧b5'=false)):=by
  show zbR d↔_
  have e3:(decide (d.shape 5<(d.on.1:Int))=false)↔(d.on.1:Int)≤d.shape 5:=by simp
  have e4:(decide (0<d.on.1)=false)↔d.on.1=0:=by simp
  have e5:(((d.tapes.1:Int) != 2)=false)↔d.tapes.1=2:=by simp;omega
  rw [h1,h2,← h3,← h4,← h5,hdn,e3,e4,e5];unfold zbR OnP
  constructor
  ·rintro ⟨a,⟨b,c,e⟩,f⟩
   exact ⟨a,b,c,e,f⟩
  ·rintro ⟨a,b,c,e,f⟩
   exact ⟨a,⟨b,c,e⟩,f⟩
 have hst:(t1=true∧t2=true∧b3'=false∧dn=true∧g'=false∧b5'=false)∨(t1=true∧t2=true∧b3'=false∧dn=false∧b5'=false):=by
  obtain ⟨a1,a2,a3,a4,a5⟩:=HE.out.1 hsel
  cases dn with
  | true=>exact .inl ⟨a1,a2,a3,rfl,a4 rfl,a5⟩
  | false=>exact .inr ⟨a1,a2,a3,rfl,a5⟩
 have HFM:=hid hsel;have htp:d.tapes.1=2:=hsel.2.2;have HTP:=hid htp;rw [← hdn] at x1_14 kx1_14 c1;clear h1 h2 hsel hok' htp HE
 go_upto_region 4 with fail
 go_cut [51] (fun v wx=>v=.bool false∧Below w1.heap.size w1 wx)
 case first=>
  clear hdn
  rcases hst with ⟨rfl,rfl,rfl,rfl,rfl,rfl⟩ | ⟨rfl,rfl,rfl,rfl,rfl⟩
  all_goals
   refine WQ.region (by kernel_rfl) (by kernel_rfl) ?_
   repeat (first | (apply WQ.free;(case hw=>rfl);intro K hK;go_simp;first | (apply hK;clear hK K) | (apply Exists.intro;apply And.intro;(case left=>intro p;(first | (go_at_call 52;exact c1 _ _) | (go_at_call 53;exact c2 _ _) | (go_at_call 54;exact cA _ _)));apply hK;clear hK K)) | (apply WQ.skip;(case hw=>rfl);intro K hK;go_simp;apply hK;clear hK K) | (apply WQ.want;(case hw=>rfl);intro K hK;go_simp;first | (apply hK;clear hK K) | (apply Exists.intro;apply And.intro;(case left=>intro p;(first | (go_at_call 52;exact c1 _ _) | (go_at_call 53;exact c2 _ _) | (go_at_call 54;exact cA _ _)));apply hK;clear hK K)))
   refine WQ.nil ?_;intro w2 hw2;have HB2:=hid (zaC hw2);clear hw2;go_wp2
   go_meet
   exact ⟨rfl,HB2.out⟩
 case rest=>
  obtain ⟨rfl,b2⟩:=hcut;obtain ⟨w2,rfl⟩:∃ x,x=wc:=⟨_,rfl⟩;have T2:One w w2 (rwW d ao1 cap1 ao2 cap2 ao3 cap3).toArray 38:=HT1.out.call b2
  rw [hdn] at *
  clear x1_0 kx1_0 x1_1 kx1_1 x1_2 kx1_2 x1_3 kx1_3 x1_4 kx1_4 x1_5 kx1_5 x1_6 kx1_6 x1_7 kx1_7 x1_8 kx1_8 x1_9 kx1_9 x1_10 kx1_10 x1_11 kx1_11 x1_12 kx1_12 x1_13 kx1_13 x1_14 kx1_14 c1 c2 cA hst h3 h4 h4' h5 b2 HT1 wsA hdn;obtain ⟨b3,off3,he3,hb3,hel3⟩:=HC3.out (by have:=HTP.out;omega);subst he3;have HT2:=hid T2;have HEL:=hid hel3;obtain ⟨ce0,hr0,hce0⟩:=zas (t:=0) hel3 T2.bel hhi hb3 (show 0<d.tapes.1 by have:=HTP.out;omega);obtain ⟨ce1,hr1,hce1⟩:=zas (t:=0) hel3 T2.bel hhi hb3 (show 1<d.tapes.1 by have:=HTP.out;omega);obtain ⟨ap0,cp0,rfl,gt0⟩:=zaW hr0;obtain ⟨ap1,cp1,rfl,gt1⟩:=zaW hr1
  have hl0:(d.tapes.2 0).recs.1≤maxLen:=by obtain ⟨_,_,_,h,_⟩:=gt0;exact h
  have hl1:(d.tapes.2 1).recs.1≤maxLen:=by obtain ⟨_,_,_,h,_⟩:=gt1;exact h
  unfold maxLen at hl0 hl1
  have q0:w2.cell? ⟨b3,off3+1,none⟩=some (.slice ap0 (d.tapes.2 0).recs.1 cp0):=by
   have:=hce0 1 (by decide)
   simpa using this
  have q1:w2.cell? ⟨b3,off3+2+1,none⟩=some (.slice ap1 (d.tapes.2 1).recs.1 cp1):=hce1 1 (by decide);have q1':w2.cell? ⟨b3,off3+3,none⟩=some (.slice ap1 (d.tapes.2 1).recs.1 cp1):=hce1 1 (by decide);have x2_11:w2.cell? ⟨w.heap.size,11,none⟩=some (.slice (some ⟨b3,off3,none⟩) d.tapes.1 cap3):=T2.b1.cell 11;obtain ⟨f0,k0⟩:∃ b,decide (200<(d.tapes.2 0).recs.1)=b:=⟨_,rfl⟩;obtain ⟨f1,k1⟩:∃ b,decide (200<(d.tapes.2 1).recs.1)=b:=⟨_,rfl⟩
  have k0':decide (200<((d.tapes.2 0).recs.1:Int))=f0:=by rw [← k0];congr 1;apply propext;omega
  have k1':decide (200<((d.tapes.2 1).recs.1:Int))=f1:=by rw [← k1];congr 1;apply propext;omega
  clear hce0 hce1 hr0 hr1 gt0 gt1 hel3 T2
  have hge:2≤d.tapes.1:=by have:=HTP.out;omega
  have hle:d.tapes.1≤2:=by have:=HTP.out;omega
  have HF0:Hid (f0=false→(d.tapes.2 0).recs.1≤200):=fun e=>by rw [← k0] at e;simpa using e
  have HF1:Hid (f1=false→(d.tapes.2 1).recs.1≤200):=fun e=>by rw [← k1] at e;simpa using e
  have HG0:Hid (f0=true→¬ (d.tapes.2 0).recs.1≤200):=fun e=>by rw [← k0] at e;simpa using e
  have HG1:Hid (f1=true→¬ (d.tapes.2 1).recs.1≤200):=fun e=>by rw [← k1] at e;simpa using e
  cases f0 with
  | true=>
   go_wp2;go_ret;exact wldP rfl (Stair.pass HOK.out (Stair.pass HFM.out (Stair.fall (fun h=>HG0.out (by simp) (h 0 (by omega)))))) HT2.out.bel
  | false=>
  cases f1 with
  | true=>
   go_wp2;go_ret;exact wldP rfl (Stair.pass HOK.out (Stair.pass HFM.out (Stair.fall (fun h=>HG1.out (by simp) (h 1 (by omega)))))) HT2.out.bel
  | false=>
  have HFW:Hid (FewP d):=fun t ht=>by
   by_cases c:t=0
   ·subst c;exact HF0.out (by simp)
   ·obtain rfl:t=1:=by omega
    exact HF1.out (by simp)
  go_wp2;clear k0 k1 k0' k1' HF0 HF1 HG0 HG1 q0 q1 q1' x2_11 hl0 hl1
  go_loopw [4] (fun v wr=>∃ t:Nat,t≤d.tapes.1∧v=.int .i64 t∧(∀ u,u<t→∀ k,k<(d.tapes.2 u).recs.1→RecAns d.shape ((d.tapes.2 u).recs.2 k) 0)∧One w wr (rwW d ao1 cap1 ao2 cap2 (some ⟨b3,off3,none⟩) cap3).toArray 38) (fun v _=>d.tapes.1-(intOf v).toNat)
  case atStart=>exact ⟨0,Nat.zero_le _,rfl,fun i hi=>by omega,HT2.out⟩
  case round=>
   clear HT2;obtain ⟨t,ht,rfl,hal,T3⟩:=hrel;obtain ⟨wo,rfl⟩:∃ x,x=wr:=⟨_,rfl⟩;have HAL:=hid hal;have HT3:=hid T3;clear hal
   by_cases hlt:t<d.tapes.1
   ·have zo:w.heap.size<wo.heap.size:=T3.b1.lt
    have hd2:decide ((t:Int)<2)=true:=decide_eq_true (by omega);clear T3;go_wp2
    go_loopw [5] (fun v wx=>∃ i:Nat,i≤(d.tapes.2 t).recs.1∧v=.int .i64 i∧(∀ k,k<i→RecAns d.shape ((d.tapes.2 t).recs.2 k) 0)∧One w wx (rwW d ao1 cap1 ao2 cap2 (some ⟨b3,off3,none⟩) cap3).toArray 38) (fun v _=>(d.tapes.2 t).recs.1-(intOf v).toNat)
    case atStart=>exact ⟨0,Nat.zero_le _,rfl,fun i hi=>by omega,HT3.out⟩
    case round=>
     clear HT3;obtain ⟨i,hi',rfl,hal2,T4⟩:=hrel;obtain ⟨wx,rfl⟩:∃ x,x=wr:=⟨_,rfl⟩;have HAL2:=hid hal2;have HT4:=hid T4;have zx:w.heap.size<wx.heap.size:=T4.b1.lt;clear hal2;obtain ⟨ct,hrt,hct⟩:=zas (t:=0) HEL.out T4.bel hhi hb3 hlt;obtain ⟨ap,cp,rfl,gt⟩:=zaW hrt;have c1:wx.cell? ⟨b3,off3+t*2+1,none⟩=some (.slice ap (d.tapes.2 t).recs.1 cp):=hct 1 (by decide);obtain ⟨_,_,et,hmt,hct'⟩:=gt
     cases et
     unfold maxLen at hmt;have HCT:=hid hct';have x5_11:wx.cell? ⟨w.heap.size,11,none⟩=some (.slice (some ⟨b3,off3,none⟩) d.tapes.1 cap3):=T4.b1.cell 11;clear hct hrt hct'
     by_cases hli:i<(d.tapes.2 t).recs.1
     ·obtain ⟨b6,off6,he6,hb6,hel6⟩:=HCT.out (by omega)
      subst he6;obtain ⟨cr,hrr,hcr⟩:=hel6 i hli;obtain ⟨ro6,rc6,ro7,rc7,ro8,rc8,rfl,-⟩:=zaH hrr;have r0:wx.cell? ⟨b6,off6+i*9,none⟩=some (.int .i64 ((d.tapes.2 t).recs.2 i).kind):=hcr 0 (by decide);have kr0:=cell_regrown r0;have r1:wx.cell? ⟨b6,off6+i*9+1,none⟩=some (.int .i64 ((d.tapes.2 t).recs.2 i).seq):=hcr 1 (by decide);have kr1:=cell_regrown r1;have r2:wx.cell? ⟨b6,off6+i*9+2,none⟩=some (.string ((d.tapes.2 t).recs.2 i).name):=hcr 2 (by decide);have kr2:=cell_regrown r2;have r3:wx.cell? ⟨b6,off6+i*9+3,none⟩=some (.int .i64 ((d.tapes.2 t).recs.2 i).length):=hcr 3 (by decide);have kr3:=cell_regrown r3;have r4:wx.cell? ⟨b6,off6+i*9+4,none⟩=some (.int .i64 ((d.tapes.2 t).recs.2 i).group):=hcr 4 (by decide);have kr4:=cell_regrown r4;have r5:wx.cell? ⟨b6,off6+i*9+5,none⟩=some (.int .i64 ((d.tapes.2 t).recs.2 i).row):=hcr 5 (by decide);have kr5:=cell_regrown r5;have r6:wx.cell? ⟨b6,off6+i*9+6,none⟩=some (.slice ro6 ((d.tapes.2 t).recs.2 i).rows.1 rc6):=hcr 6 (by decide);have kr6:=cell_regrown r6;have r7:wx.cell? ⟨b6,off6+i*9+7,none⟩=some (.slice ro7 ((d.tapes.2 t).recs.2 i).data.1 rc7):=hcr 7 (by decide);have kr7:=cell_regrown r7;have r8:wx.cell? ⟨b6,off6+i*9+8,none⟩=some (.slice ro8 ((d.tapes.2 t).recs.2 i).delta.1 rc8):=hcr 8 (by decide);have kr8:=cell_regrown r8;have HRR:=hid hrr;obtain ⟨X,hX⟩:∃ X,RecAns d.shape ((d.tapes.2 t).recs.2 i) X:=zch (K:=isZ) ⟨0,rfl⟩ _;have HX:=hid hX;have kx5_11:=cell_regrown x5_11;have kc1:=cell_regrown c1;have x5_0:wx.cell? ⟨w.heap.size,0,none⟩=some (.int .i64 (d.shape 0)):=T4.b1.cell 0;have kx5_0:=cell_regrown x5_0;have x5_1:wx.cell? ⟨w.heap.size,1,none⟩=some (.int .i64 (d.shape 1)):=T4.b1.cell 1;have kx5_1:=cell_regrown x5_1;have x5_2:wx.cell? ⟨w.heap.size,2,none⟩=some (.int .i64 (d.shape 2)):=T4.b1.cell 2;have kx5_2:=cell_regrown x5_2;have x5_3:wx.cell? ⟨w.heap.size,3,none⟩=some (.int .i64 (d.shape 3)):=T4.b1.cell 3;have kx5_3:=cell_regrown x5_3;have x5_4:wx.cell? ⟨w.heap.size,4,none⟩=some (.int .i64 (d.shape 4)):=T4.b1.cell 4;have kx5_4:=cell_regrown x5_4;have x5_5:wx.cell? ⟨w.heap.size,5,none⟩=some (.int .i64 (d.shape 5)):=T4.b1.cell 5;have kx5_5:=cell_regrown x5_5;have x5_6:wx.cell? ⟨w.heap.size,6,none⟩=some (.int .i64 (d.shape 6)):=T4.b1.cell 6;have kx5_6:=cell_regrown x5_6;have x5_7:wx.cell? ⟨w.heap.size,7,none⟩=some (.int .i64 (d.shape 7)):=T4.b1.cell 7
      have kx5_7:=cell_regrown x5_7;have x5_8:wx.cell? ⟨w.heap.size,8,none⟩=some (.int .i64 (d.shape 8)):=T4.b1.cell 8;have kx5_8:=cell_regrown x5_8;have CR:=zav (W:=wx) (fun w' hw'=>zgw HX.out (ze1 d.shape ((d.tapes.2 t).recs.2 i) _ hi w' (zab.rd_below HRR.out hw' (by omega)) (Nat.le_trans (by omega) hw'.size) (HNM.out t hlt i hli)));unfold zac at CR;clear hel6 hcr hrr T4 hX
      go_upto_region 14 with fail
      refine WQ.region (by kernel_rfl) (by kernel_rfl) ?_
      repeat (first | (apply WQ.skip;(case hw=>rfl);intro K hK;go_simp;apply hK;clear hK K) | (apply WQ.want;(case hw=>rfl);intro K hK;go_simp;first | (apply hK;clear hK K) | (apply Exists.intro;apply And.intro;(case left=>intro p;(first | (go_at_call 55;exact CR _ _)));apply hK;clear hK K)))
      refine WQ.nil ?_;intro w6 hw6;have HT6:=hid (HT4.out.call (zaC hw6));clear hw6 CR r0 kr0 x5_0 kx5_0 r1 kr1 x5_1 kx5_1 r2 kr2 x5_2 kx5_2 r3 kr3 x5_3 kx5_3 r4 kr4 x5_4 kx5_4 r5 kr5 x5_5 kx5_5 r6 kr6 x5_6 kx5_6 r7 kr7 x5_7 kx5_7 r8 kr8 x5_8 kx5_8 x5_11 kx5_11 c1 kc1
      by_cases hx0:X=0
      ·subst hx0
       go_wp2
       go_roundw
       case rel=>exact ⟨i+1,by omega,by go_num,fun k hk=>by
        by_cases c:k=i
        ·subst c;exact HX.out
        ·exact HAL2.out k (by omega),HT6.out⟩
       case measure=>simp [intOf];omega
      ·have hne:(X != 0)=true:=by simp [hx0]
       go_wp2;go_ret;exact wldP rfl (Stair.pass HOK.out (Stair.pass HFM.out (Stair.pass HFW.out (Stair.last (.inl ⟨hx0,.inr ⟨hx0,t,i,hlt,hli,HX.out,HAL2.out,HAL.out⟩⟩))))) HT6.out.bel
     ·obtain rfl:i=(d.tapes.2 t).recs.1:=by omega
      clear T4;go_wp2
      go_roundw
      case rel=>exact ⟨t+1,by omega,by go_num,fun u hu=>by
       by_cases c:u=t
       ·subst c;exact HAL2.out
       ·exact HAL.out u (by omega),HT4.out⟩
      case measure=>simp [intOf];omega
   ·obtain rfl:t=d.tapes.1:=by omega
    clear T3;have HRA:Hid (RecsAns d.shape d.tapes.1 d.tapes.2 0):=.inl ⟨rfl,HAL.out⟩;go_wp2
    go_loop [7] (fun v=>∃ t:Nat,t≤d.tapes.1∧v=.int .i64 t∧∀ u,u<t→(d.tapes.2 u).wiped=true→(d.tapes.2 u).recs.1=0) (fun v=>d.tapes.1-(intOf v).toNat)
    case atStart=>exact ⟨0,Nat.zero_le _,rfl,fun i hi=>by omega⟩
    case round=>
     obtain ⟨t,ht,rfl,hal⟩:=hrel;have HAL3:=hid hal;clear hal
     by_cases hlt:t<d.tapes.1
     ·obtain ⟨ct,hrt,hct⟩:=zas (t:=0) HEL.out HT3.out.bel hhi hb3 hlt
      obtain ⟨ap,cp,rfl,gt⟩:=zaW hrt;have c0:wo.cell? ⟨b3,off3+t*2,none⟩=some (.bool (d.tapes.2 t).wiped):=hct 0 (by decide);have c1:wo.cell? ⟨b3,off3+t*2+1,none⟩=some (.slice ap (d.tapes.2 t).recs.1 cp):=hct 1 (by decide);have x5_11:wo.cell? ⟨w.heap.size,11,none⟩=some (.slice (some ⟨b3,off3,none⟩) d.tapes.1 cap3):=HT3.out.b1.cell 11;obtain ⟨u,hu⟩:∃ u,u=(d.tapes.2 t).wiped:=⟨_,rfl⟩;obtain ⟨g,hg⟩:∃ b,decide (0<(d.tapes.2 t).recs.1)=b:=⟨_,rfl⟩
      have hg':decide (0<((d.tapes.2 t).recs.1:Int))=g:=by rw [← hg];simp
      rw [← hu] at c0
      have HE3:Hid (((d.tapes.2 t).wiped=true→(d.tapes.2 t).recs.1=0)↔(u=true→g=false)):=by
       show _↔_
       rw [← hu,← hg]
       simp
      clear hct hrt gt hu
      cases u with
      | false=>
       go_wp2
       go_round
       case rel=>exact ⟨t+1,by omega,by go_num,fun u hu=>by
        by_cases c:u=t
        ·subst c;exact HE3.out.2 (by simp)
        ·exact HAL3.out u (by omega)⟩
       case measure=>simp [intOf];omega
      | true=>
       cases g with
       | false=>
        go_wp2
        go_round
        case rel=>exact ⟨t+1,by omega,by go_num,fun u hu=>by
         by_cases c:u=t
         ·subst c;exact HE3.out.2 (by simp)
         ·exact HAL3.out u (by omega)⟩
        case measure=>simp [intOf];omega
       | true=>
        go_wp2;go_ret;exact wldP rfl (Stair.pass HOK.out (Stair.pass HFM.out (Stair.pass HFW.out (Stair.last (.inr ⟨HRA.out,Stair.fall (fun h=>by have:=HE3.out.1 (h t hlt);simp at this)⟩))))) HT3.out.bel
     ·obtain rfl:t=d.tapes.1:=by omega
      have HCL:=hid HAL3.out;have x5_12:wo.cell? ⟨w.heap.size,12,none⟩=some (.int .i64 d.writes):=HT3.out.b1.cell 12;have x5_13:wo.cell? ⟨w.heap.size,13,none⟩=some (.int .i64 d.stop):=HT3.out.b1.cell 13;obtain ⟨t1,h1⟩:=exB (InP d.writes 0 1000000000);obtain ⟨t2,h2⟩:=exB (InP d.stop (-1) 1000000000);have C1:=fun w'=>zbQ (w:=w') h1;have C2:=fun w'=>zbQ (w:=w') h2
      have HE4:Hid (zen d↔(t1=true∧t2=true)):=by
       show zen d↔_
       rw [h1,h2];exact Iff.rfl
      clear h1 h2
      go_wp2_with fail
      refine (C1 _).mono ?_;rintro e w' ⟨rfl,hw'⟩;obtain rfl:=hw'.symm;clear C1
      cases t1 with
      | false=>
       go_wp2;go_ret;exact wldP rfl (Stair.pass HOK.out (Stair.pass HFM.out (Stair.pass HFW.out (Stair.last (.inr ⟨HRA.out,Stair.pass HCL.out (Stair.fall (fun h=>by have:=HE4.out.1 h;simp at this))⟩))))) HT3.out.bel
      | true=>
       go_wp2_with fail
       refine (C2 _).mono ?_;rintro e w' ⟨rfl,hw'⟩;obtain rfl:=hw'.symm;clear C2
       cases t2 with
       | false=>
        go_wp2;go_ret;exact wldP rfl (Stair.pass HOK.out (Stair.pass HFM.out (Stair.pass HFW.out (Stair.last (.inr ⟨HRA.out,Stair.pass HCL.out (Stair.fall (fun h=>by have:=HE4.out.1 h;simp at this))⟩))))) HT3.out.bel
       | true=>
        go_wp2;go_ret;exact wldP rfl (Stair.pass HOK.out (Stair.pass HFM.out (Stair.pass HFW.out (Stair.last (.inr ⟨HRA.out,Stair.pass HCL.out (Stair.pass (HE4.out.2 (by simp)) (Stair.last rfl))⟩))))) HT3.out.bel
set_option maxRecDepth 20000 in
theorem zfh (d:WorldD) (cs:List Value) (hi:Nat) (w:World) (h:zaj.rd w hi d cs) (hhi:hi≤w.heap.size) (hnm:∀ t,t<d.tapes.1→∀ i,i<(d.tapes.2 t).recs.1→((d.tapes.2 t).recs.2 i).name.size≤1048576) (hok':¬ zai d.shape) :
 Calls Tryz.prog 23 #[.agg cs.toArray] w (zb8 d w):=by
 obtain ⟨ao1,cap1,ao2,cap2,ao3,cap3,rfl,g1,g2,g3,-⟩:=zaM h;have HRD:=hid h;obtain ⟨v2,e2,⟨h2,hcp2⟩,_⟩:=g2
 cases e2
 have H2:=hid h2;have HCP:=hid hcp2;have hm2:=h2.mx;obtain ⟨_,_,e3,hm3,hc3⟩:=g3
 cases e3
 unfold maxLen at hm2 hm3;have HC3:=hid hc3;have HNM:=hid hnm;clear h h2 hcp2 hc3 g1 hnm;have T0:=zaB w (rwW d ao1 cap1 ao2 cap2 ao3 cap3).toArray 38;have CSh:=fun w'=>zaZ d.shape w';unfold zac at CSh
 go_enter Tryz.func23,Tryz.ntmps23
 go_wp2_with fail
 refine (CSh _).mono ?_;rintro e w1 ⟨x,rfl,hx,b1⟩;have T1:One w w1 (rwW d ao1 cap1 ao2 cap2 ao3 cap3).toArray 38:=T0.call b1;have HT1:=hid T1;clear b1 T0 CSh;have x1_0:w1.cell? ⟨w.heap.size,0,none⟩=some (.int .i64 (d.shape 0)):=T1.b1.cell 0;have kx1_0:=cell_regrown x1_0;have x1_1:w1.cell? ⟨w.heap.size,1,none⟩=some (.int .i64 (d.shape 1)):=T1.b1.cell 1;have kx1_1:=cell_regrown x1_1;have x1_2:w1.cell? ⟨w.heap.size,2,none⟩=some (.int .i64 (d.shape 2)):=T1.b1.cell 2;have kx1_2:=cell_regrown x1_2;have x1_3:w1.cell? ⟨w.heap.size,3,none⟩=some (.int .i64 (d.shape 3)):=T1.b1.cell 3;have kx1_3:=cell_regrown x1_3;have x1_4:w1.cell? ⟨w.heap.size,4,none⟩=some (.int .i64 (d.shape 4)):=T1.b1.cell 4;have kx1_4:=cell_regrown x1_4;have x1_5:w1.cell? ⟨w.heap.size,5,none⟩=some (.int .i64 (d.shape 5)):=T1.b1.cell 5;have kx1_5:=cell_regrown x1_5;have x1_6:w1.cell? ⟨w.heap.size,6,none⟩=some (.int .i64 (d.shape 6)):=T1.b1.cell 6;have kx1_6:=cell_regrown x1_6;have x1_7:w1.cell? ⟨w.heap.size,7,none⟩=some (.int .i64 (d.shape 7)):=T1.b1.cell 7;have kx1_7:=cell_regrown x1_7;have x1_8:w1.cell? ⟨w.heap.size,8,none⟩=some (.int .i64 (d.shape 8)):=T1.b1.cell 8;have kx1_8:=cell_regrown x1_8;have x1_9:w1.cell? ⟨w.heap.size,9,none⟩=some (.slice ao1 d.groups.1 cap1):=T1.b1.cell 9;have kx1_9:=cell_regrown x1_9;have x1_10:w1.cell? ⟨w.heap.size,10,none⟩=some (.slice ao2 d.on.1 cap2):=T1.b1.cell 10;have kx1_10:=cell_regrown x1_10;have x1_11:w1.cell? ⟨w.heap.size,11,none⟩=some (.slice ao3 d.tapes.1 cap3):=T1.b1.cell 11;have kx1_11:=cell_regrown x1_11;have x1_12:w1.cell? ⟨w.heap.size,12,none⟩=some (.int .i64 d.writes):=T1.b1.cell 12;have kx1_12:=cell_regrown x1_12;have x1_13:w1.cell? ⟨w.heap.size,13,none⟩=some (.int .i64 d.stop):=T1.b1.cell 13;have kx1_13:=cell_regrown x1_13;have x1_14:w1.cell? ⟨w.heap.size,14,none⟩=some (.bool d.down):=T1.b1.cell 14;have kx1_14:=cell_regrown x1_14;clear T1
 rcases hx with ⟨rfl,hno⟩ | ⟨rfl,hok⟩
 ·go_wp2
  go_ret;exact wldP rfl (Stair.fall hno) HT1.out.bel
 exact absurd hok hok'
theorem zd2 (d:WorldD) (cs:List Value) (hi:Nat) (w:World) (h:zaj.rd w hi d cs) (hhi:hi≤w.heap.size) (hnm:∀ t,t<d.tapes.1→∀ i,i<(d.tapes.2 t).recs.1→((d.tapes.2 t).recs.2 i).name.size≤1048576) :
 Calls Tryz.prog 23 #[.agg cs.toArray] w (zb8 d w):=by
 by_cases h0:zai d.shape
 ·by_cases h1:zb1 d∧zbm d.on.1 d.on.2 (d.shape 0+d.shape 1-1)
  ·by_cases h2:(d.on.1:Int)≤d.shape 5∧(d.down=true→d.on.1=0)
   ·by_cases h3:d.tapes.1=2
    ·exact zfg d cs hi w h hhi hnm h0 ⟨h1.1,⟨h1.2,h2.1,h2.2⟩,h3⟩
    ·exact zff d cs hi w h hhi hnm h0 ⟨h1.1,h1.2,h2,h3⟩
   ·exact zfe d cs hi w h hhi hnm h0 ⟨h1.1,h1.2,h2⟩
  ·exact zfd d cs hi w h hhi hnm h0 h1
 ·exact zfh d cs hi w h hhi hnm h0
theorem zgM {w:World} {hi:Nat} {d:WorldD} {cs:List Value} (h:zaj.rd w hi d cs):∃ v0 v1 v2 v3 v4 v5 v6 v7 v8 vp0 vl0 vq0 vp1 vl1 vq1 vp2 vl2 vq2 v9 v10 vb,cs=[.int .i64 v0,.int .i64 v1,.int .i64 v2,.int .i64 v3,.int .i64 v4,.int .i64 v5,.int .i64 v6,.int .i64 v7,.int .i64 v8,.slice vp0 vl0 vq0,.slice vp1 vl1 vq1,.slice vp2 vl2 vq2,.int .i64 v9,.int .i64 v10,.bool vb]:=by
 obtain ⟨p1,pc1,p2,pc2,p3,pc3,rfl,-⟩:=zaM h;exact ⟨_,_,_,_,_,_,_,_,_,_,_,_,_,_,_,_,_,_,_,_,_,rfl⟩
theorem zha {w:World} {lo hi:Nat} {d:WorldD} {cs:List Value} (h:OwnT zaj w lo hi d cs):∃ v0 v1 v2 v3 v4 v5 v6 v7 v8 vp0 vl0 vq0 vp1 vl1 vq1 vp2 vl2 vq2 v9 v10 vb,cs=[.int .i64 v0,.int .i64 v1,.int .i64 v2,.int .i64 v3,.int .i64 v4,.int .i64 v5,.int .i64 v6,.int .i64 v7,.int .i64 v8,.slice vp0 vl0 vq0,.slice vp1 vl1 vq1,.slice vp2 vl2 vq2,.int .i64 v9,.int .i64 v10,.bool vb]:=zgM h.rd
theorem zcY {d:WorldD} (h:zbG d≤1048576):∀ t,t<d.tapes.1→∀ i,i<(d.tapes.2 t).recs.1→((d.tapes.2 t).recs.2 i).name.size≤1048576:=fun t ht i hi=>by
 have h1:szSl zaQ d.tapes≤1048576:=by unfold zbG at h;omega
 have h2:szSl za2 (d.tapes.2 t).recs≤1048576:=zcn h1 ht;have h3:za2 ((d.tapes.2 t).recs.2 i)≤1048576:=zcn h2 hi;unfold za2 at h3;omega
theorem za1:(Tryz.prog.info? 46).map (·.size)=some 2:=by kernel_rfl
theorem zb0 (a b:Int):∀ v,v∈([.int .i64 a,.int .i64 b]:List Value)→v.oneCell'=true:=fun v hv=>by
 simp at hv
 rcases hv with rfl | rfl<;>rfl
def zd3 (n:Nat) (y:Nat→RecD):Int:=if n=0 then 0 else (y (n-1)).seq
def zcH (n:Nat) (y:Nat→RecD):Int:=IntKind.i64.wrap (zd3 n y+1)
def NxtAns (d:WorldD) (c v:Int):Prop:=(c≠0∧WldAns d c∧v=0)∨(WldAns d 0∧∃ l,Cnt (recT d.tapes.2 2) (lenT d.tapes.2 2) l∧((1000000000<zcH l.length (fun i=>recT d.tapes.2 2 (l.getD i 0))∧c=2∧v=0)∨(¬ 1000000000<zcH l.length (fun i=>recT d.tapes.2 2 (l.getD i 0))∧c=0∧v=zcH l.length (fun i=>recT d.tapes.2 2 (l.getD i 0)))))
theorem NxtAns.one {d:WorldD} {c v c' v':Int} (h:NxtAns d c v) (k:NxtAns d c' v'):c=c'∧v=v':=by
 rcases h with ⟨h1,h2,h3⟩ | ⟨h1,l,hl,h3⟩<;>rcases k with ⟨k1,k2,k3⟩ | ⟨k1,m,hm,k3⟩
 ·exact ⟨h2.one k2,by rw [h3,k3]⟩
 ·exact absurd (h2.one k1) h1
 ·exact absurd (k2.one h1) k1
 ·obtain rfl:=hl.uniq hm
  rcases h3 with ⟨a,rfl,rfl⟩ | ⟨a,rfl,rfl⟩<;>rcases k3 with ⟨b,rfl,rfl⟩ | ⟨b,rfl,rfl⟩
  ·exact ⟨rfl,rfl⟩
  ·exact absurd a b
  ·exact absurd b a
  ·exact ⟨rfl,rfl⟩
def zhR (tp:Nat→TapeD) (w:World) (e:Ending) (w':World):Prop:=∃ l c x,Cnt (recT tp 2) (lenT tp 2) l∧((1000000000<zcH l.length (fun i=>recT tp 2 (l.getD i 0))∧c=2∧x=0)∨(¬ 1000000000<zcH l.length (fun i=>recT tp 2 (l.getD i 0))∧c=0∧x=zcH l.length (fun i=>recT tp 2 (l.getD i 0))))∧e=.returned (.agg #[.int .i64 c,.int .i64 x])∧Below w.heap.size w w'
def zgN (d:WorldD) (w:World) (e:Ending) (w':World):Prop:=∃ c v,e=.returned (.agg #[.int .i64 c,.int .i64 v])∧NxtAns d c v∧Below w.heap.size w w'
set_option maxRecDepth 20000 in
theorem zgO (v:Value) (n:Nat) (y:Nat→RecD) (hi:Nat) (w:World) (h:(zab.slice 92).rd w hi (n,y) [v]) (hn:n≤1000000000) :
 Calls Tryz.prog 43 #[v] w (fun e w'=>e=.returned (.int .i64 (zd3 n y))∧w'=w):=by
 obtain ⟨ao,cap,e,hmm,hc⟩:=h
 obtain rfl:v=.slice ao n cap:=by simpa using e
 have hc':n≠0→∃ b off,ao=some ⟨b,off,none⟩∧b<hi∧∀ i,i<n→∃ ce,zab.rd w hi (y i) ce∧∀ j,j<zab.sz→w.cell? ⟨b,off+(i*zab.sz+j),none⟩=ce[j]?:=hc;clear e hmm hc
 by_cases h0:n=0
 ·subst h0
  have e1:zd3 0 y=0:=rfl;rw [e1];clear hc' e1
  go_enter Tryz.func43,Tryz.ntmps43
  go_wp2;go_ret;exact ⟨rfl,rfl⟩
 ·obtain ⟨b,off,rfl,hb,hel⟩:=hc' h0
  obtain ⟨m,rfl⟩:∃ m,n=m+1:=⟨n-1,by omega⟩;obtain ⟨ce,hr,hcell⟩:=hel m (by omega);obtain ⟨a6,ak6,a7,ak7,a8,ak8,rfl,-⟩:=zaH hr
  have s1:w.cell? ⟨b,off+m*9+1,none⟩=some (.int .i64 (y m).seq):=by have:=hcell 1 (by decide);rw [← Nat.add_assoc] at this;exact this
  have e1:zd3 (m+1) y=(y m).seq:=rfl;rw [e1]
  have wP:IntKind.i64.wrap (((m+1:Nat):Int)-1)=(m:Int):=by rw [IntKind.wrap_i64];omega
  have wA:IntKind.i64.wrap (m:Int)=(m:Int):=by rw [IntKind.wrap_i64];omega
  have i1:(0:Int)≤(m:Int):=by omega
  have i2:(m:Int)<((m+1:Nat):Int):=by omega
  have i3:m<m+1:=by omega
  clear hc' hel hr hcell e1
  go_enter Tryz.func43,Tryz.ntmps43
  go_wp2;go_ret;exact ⟨rfl,rfl⟩
set_option maxRecDepth 20000 in
theorem zdm (v:Value) (n:Nat) (y:Nat→RecD) (hi:Nat) (w:World) (h:(zab.slice 92).rd w hi (n,y) [v]) (hn:n≤1000000000) :
 Calls Tryz.prog 82 #[v] w (fun e w'=>e=.returned (.int .i64 (zd3 n y))∧w'=w):=by
 obtain ⟨ao,cap,e,hmm,hc⟩:=h
 obtain rfl:v=.slice ao n cap:=by simpa using e
 have hc':n≠0→∃ b off,ao=some ⟨b,off,none⟩∧b<hi∧∀ i,i<n→∃ ce,zab.rd w hi (y i) ce∧∀ j,j<zab.sz→w.cell? ⟨b,off+(i*zab.sz+j),none⟩=ce[j]?:=hc;clear e hmm hc
 by_cases h0:n=0
 ·subst h0
  have e1:zd3 0 y=0:=rfl;rw [e1];clear hc' e1
  go_enter Tryz.func82,Tryz.ntmps82
  go_wp2;go_ret;exact ⟨rfl,rfl⟩
 ·obtain ⟨b,off,rfl,hb,hel⟩:=hc' h0
  obtain ⟨m,rfl⟩:∃ m,n=m+1:=⟨n-1,by omega⟩;obtain ⟨ce,hr,hcell⟩:=hel m (by omega);obtain ⟨a6,ak6,a7,ak7,a8,ak8,rfl,-⟩:=zaH hr
  have s1:w.cell? ⟨b,off+m*9+1,none⟩=some (.int .i64 (y m).seq):=by have:=hcell 1 (by decide);rw [← Nat.add_assoc] at this;exact this
  have e1:zd3 (m+1) y=(y m).seq:=rfl;rw [e1]
  have wP:IntKind.i64.wrap (((m+1:Nat):Int)-1)=(m:Int):=by rw [IntKind.wrap_i64];omega
  have wA:IntKind.i64.wrap (m:Int)=(m:Int):=by rw [IntKind.wrap_i64];omega
  have i1:(0:Int)≤(m:Int):=by omega
  have i2:(m:Int)<((m+1:Nat):Int):=by omega
  have i3:m<m+1:=by omega
  clear hc' hel hr hcell e1
  go_enter Tryz.func82,Tryz.ntmps82
  go_wp2;go_ret;exact ⟨rfl,rfl⟩
set_option maxRecDepth 20000 in
theorem zfi (tp:Nat→TapeD) (v:Value) (hi:Nat) (w:World) (h:(zaq.slice 88).rd w hi (2,tp) [v]) (hhi:hi≤w.heap.size) (hn0:(tp 0).recs.1≤400000) (hn1:(tp 1).recs.1≤400000) :
 Calls Tryz.prog 44 #[v] w (zhR tp w):=by
 have B0:=zaB w #[.int .i64 0,.int .i64 0] 46;have CC:=zdR tp v hi (w.alloc (.cells #[.int .i64 0,.int .i64 0] 46)) (Lay.rd_below _ h B0.bel hhi) (Nat.le_trans hhi B0.bel.size) hn0 hn1;clear h
 go_enter Tryz.func44,Tryz.ntmps44
 go_wp2_with fail
 refine CC.mono ?_;rintro e w2 ⟨v2,l,ce,lo,rfl,hCt,hlo,V,b2⟩;have HL:=hid hCt;have HO:=hid (B0.call b2);have z2:=HO.out.b1.lt
 have hlen:l.length≤1000000000:=by
  have h1:=(hCt.sum (fun _=>0)).2
  have e2:lenT tp 2=(tp 0).recs.1+(tp 1).recs.1:=by simp [lenT]
  omega
 have CT:=zdm v2 l.length (fun i=>recT tp 2 (l.getD i 0)) w2.heap.size w2 (V.rd (by have:=b2.size;have:=B0.bel.size;omega)) hlen;obtain ⟨a2,c2,rfl⟩:=V.form;clear V b2 hCt CC B0 hlo
 go_wp2_with fail
 refine CT.mono ?_;rintro e w3 ⟨rfl,e3⟩;obtain rfl:=e3.symm;obtain ⟨t,ht⟩:∃ t,t=zd3 l.length (fun i=>recT tp 2 (l.getD i 0)):=⟨_,rfl⟩;rw [← ht];obtain ⟨u,hu⟩:∃ u,u=IntKind.i64.wrap (t+1):=⟨_,rfl⟩
 have HU:Hid (u=zcH l.length (fun i=>recT tp 2 (l.getD i 0))):=by rw [hu,ht];exact rfl
 have hu':IntKind.i64.wrap (t+1)=u:=hu.symm;clear CT ht hu
 by_cases hb:1000000000<u
 ·go_wp2_with (refine za4 46 _ _ rfl rfl (w.heap.size) rfl (cs:=[.int .i64 2,.int .i64 0]) rfl (HO.out.b1) za1 rfl rfl (zb0 _ _) ?_;intro w9 X9 C9 z9)
  refine zcr Tryz.results44 rfl X9 Tryz.underlying46 za1 rfl rfl ?_;have zz:=C9.size;exact ⟨l,2,0,HL.out,.inl ⟨by rw [← HU.out];exact hb,rfl,rfl⟩,rfl,HO.out.bel.trans (C9.bel (fun b hb=>by simp at hb;omega) HO.out.bel.size)⟩
 ·have hd:decide (1000000000<u)=false:=decide_eq_false hb
  go_wp2_with (refine za4 46 _ _ rfl rfl (w.heap.size) rfl (cs:=[.int .i64 0,.int .i64 u]) rfl (HO.out.b1) za1 rfl rfl (zb0 _ _) ?_;intro w9 X9 C9 z9)
  refine zcr Tryz.results44 rfl X9 Tryz.underlying46 za1 rfl rfl ?_;have zz:=C9.size;exact ⟨l,0,u,HL.out,.inr ⟨by rw [← HU.out];omega,rfl,HU.out⟩,rfl,HO.out.bel.trans (C9.bel (fun b hb=>by simp at hb;omega) HO.out.bel.size)⟩
set_option maxRecDepth 20000 in
theorem zeE (d:WorldD) (cs:List Value) (hi:Nat) (w:World) (h:zaj.rd w hi d cs) (hhi:hi≤w.heap.size) (hsz:zbG d≤1048576) :
 Calls Tryz.prog 16 #[.agg cs.toArray] w (zgN d w):=by
 have h':=h;obtain ⟨ao1,cap1,ao2,cap2,ao3,cap3,rfl,g1,g2,g3,k0,k4,k5⟩:=zaM h';have HRD:=hid h;have HG3:=hid g3;have HSZ:=hid hsz;clear h h' hsz g1 g2 g3 k0 k4 k5;have T0:=zaD w #[.int .i64 (d.shape 0),.int .i64 (d.shape 1),.int .i64 (d.shape 2),.int .i64 (d.shape 3),.int .i64 (d.shape 4),.int .i64 (d.shape 5),.int .i64 (d.shape 6),.int .i64 (d.shape 7),.int .i64 (d.shape 8),.slice ao1 d.groups.1 cap1,.slice ao2 d.on.1 cap2,.slice ao3 d.tapes.1 cap3,.int .i64 d.writes,.int .i64 d.stop,.bool d.down] #[.int .i64 0,.int .i64 0] 38 46
 go_enter Tryz.func16,Tryz.ntmps16
 go_wp2_with (refine zaO 38 (.tmp 1) rfl rfl (w.heap.size) rfl (T0.b1) Tryz.underlying38 zfo rfl ?_)
 refine (zd1 d _ hi _ (zaj.rd_below HRD.out T0.bel hhi) (Nat.le_trans hhi T0.bel.size) (zcY HSZ.out)).mono ?_;rintro e w1 ⟨x,rfl,hx,b1⟩;have HT1:=hid (T0.call b1);have HX:=hid hx;have z1:w.heap.size+1<w1.heap.size:=HT1.out.b2.lt;clear b1 T0 hx
 by_cases hx0:x=0
 case neg=>
  have hne:(x != 0)=true:=by simp [hx0]
  go_wp2_with (refine za4 46 _ _ rfl rfl (w.heap.size+1) rfl (cs:=[.int .i64 x,.int .i64 0]) rfl (HT1.out.b2) za1 rfl rfl (zb0 _ _) ?_;intro w9 X9 C9 z9)
  refine zcr Tryz.results16 rfl X9 Tryz.underlying46 za1 rfl rfl ?_;have zz:=C9.size;exact ⟨x,0,rfl,.inl ⟨hx0,HX.out,rfl⟩,HT1.out.bel.trans (C9.bel (fun b hb=>by simp at hb;omega) HT1.out.bel.size)⟩
 subst hx0;have HOK:=hid (WldAns.ok HX.out);have h2:d.tapes.1=2:=HOK.out.form.2.2;have hn0:(d.tapes.2 0).recs.1≤400000:=Nat.le_trans (HOK.out.few 0 (by omega)) (by decide);have hn1:(d.tapes.2 1).recs.1≤400000:=Nat.le_trans (HOK.out.few 1 (by omega)) (by decide)
 have x11:w1.cell? ⟨w.heap.size,11,none⟩=some (.slice ao3 2 cap3):=by have:=HT1.out.b1.cell 11;rw [h2] at this;exact this
 have G3:(zaq.slice 88).rd w1 hi (2,d.tapes.2) [.slice ao3 2 cap3]:=by
  have:=Lay.rd_below _ HG3.out HT1.out.bel hhi;rw [h2] at this;rw [show d.tapes=(2,d.tapes.2) from Prod.ext h2 rfl] at this;exact this
 have CC:=zfi d.tapes.2 (.slice ao3 2 cap3) hi w1 G3 (by omega) hn0 hn1;clear G3
 go_wp2_with fail
 refine CC.mono ?_;rintro e w2 ⟨l,c,v,hl,hcv,rfl,b2⟩;have HQ:Hid (NxtAns d c v):=.inr ⟨HX.out,l,hl,hcv⟩;have HT2:=hid (HT1.out.call b2);clear hcv hl b2 CC x11 HT1
 go_wp2_with (refine za4 46 _ _ rfl rfl (w.heap.size+1) rfl (cs:=[.int .i64 c,.int .i64 v]) rfl (HT2.out.b2) za1 rfl rfl (zb0 _ _) ?_;intro w9 X9 C9 z9)
 refine zcr Tryz.results16 rfl X9 Tryz.underlying46 za1 rfl rfl ?_;have zz:=C9.size;exact ⟨c,v,rfl,HQ.out,HT2.out.bel.trans (C9.bel (fun b hb=>by simp at hb;omega) HT2.out.bel.size)⟩
set_option maxRecDepth 20000 in
theorem zeF (d:WorldD) (cs:List Value) (hi:Nat) (w:World) (h:zaj.rd w hi d cs) (hhi:hi≤w.heap.size) (hsz:zbG d≤1048576) :
 Calls Tryz.prog 15 #[.agg cs.toArray] w (zgN d w):=by
 have h':=h;obtain ⟨ao1,cap1,ao2,cap2,ao3,cap3,rfl,g1,g2,g3,k0,k4,k5⟩:=zaM h';have HRD:=hid h;have HG3:=hid g3;have HSZ:=hid hsz;clear h h' hsz g1 g2 g3 k0 k4 k5;have T0:=zaD w (rwW d ao1 cap1 ao2 cap2 ao3 cap3).toArray #[.int .i64 0,.int .i64 0] 38 46
 go_enter Tryz.func15,Tryz.ntmps15
 go_wp2_with (refine zaO 38 (.tmp 1) rfl rfl (w.heap.size) rfl (T0.b1) Tryz.underlying38 zfo rfl ?_)
 refine (zd2 d _ hi _ (zaj.rd_below HRD.out T0.bel hhi) (Nat.le_trans hhi T0.bel.size) (zcY HSZ.out)).mono ?_;rintro e w1 ⟨x,rfl,hx,b1⟩;have HT1:=hid (T0.call b1);have HX:=hid hx;have z1:w.heap.size+1<w1.heap.size:=HT1.out.b2.lt;clear b1 T0 hx
 by_cases hx0:x=0
 case neg=>
  have hne:(x != 0)=true:=by simp [hx0]
  go_wp2_with (refine za4 46 _ _ rfl rfl (w.heap.size+1) rfl (cs:=[.int .i64 x,.int .i64 0]) rfl (HT1.out.b2) za1 rfl rfl (zb0 _ _) ?_;intro w9 X9 C9 z9)
  refine zcr Tryz.results15 rfl X9 Tryz.underlying46 za1 rfl rfl ?_;have zz:=C9.size;exact ⟨x,0,rfl,.inl ⟨hx0,HX.out,rfl⟩,HT1.out.bel.trans (C9.bel (fun b hb=>by simp at hb;omega) HT1.out.bel.size)⟩
 subst hx0;have HOK:=hid (WldAns.ok HX.out);have h2:d.tapes.1=2:=HOK.out.form.2.2;have hn0:(d.tapes.2 0).recs.1≤400000:=Nat.le_trans (HOK.out.few 0 (by omega)) (by decide);have hn1:(d.tapes.2 1).recs.1≤400000:=Nat.le_trans (HOK.out.few 1 (by omega)) (by decide);have CC:=zdT d (rwW d ao1 cap1 ao2 cap2 ao3 cap3) hi w.heap.size w1 (zaj.rd_below HRD.out HT1.out.bel hhi) (by omega) HT1.out.b1 h2 hn0 hn1
 go_wp2_with fail
 refine CC.mono ?_;rintro e w2 ⟨v2,l,ce,lo,rfl,hCt,hlo,V,b2⟩;have HL:=hid hCt;have z2:w1.heap.size≤w2.heap.size:=b2.size
 have hlen:l.length≤1000000000:=by
  have h1:=(hCt.sum (fun _=>0)).2
  have e2:lenT d.tapes.2 2=(d.tapes.2 0).recs.1+(d.tapes.2 1).recs.1:=by simp [lenT]
  omega
 have CT:=zgO v2 l.length (fun i=>recT d.tapes.2 2 (l.getD i 0)) w2.heap.size w2 (V.rd (by omega)) hlen;have HT2:=hid (HT1.out.call b2);obtain ⟨a2,c2,rfl⟩:=V.form;clear V b2 hCt CC HT1
 go_wp2_with fail
 refine CT.mono ?_;rintro e w3 ⟨rfl,e3⟩;obtain rfl:=e3.symm;obtain ⟨t,ht⟩:∃ t,t=zd3 l.length (fun i=>recT d.tapes.2 2 (l.getD i 0)):=⟨_,rfl⟩;rw [← ht];obtain ⟨u,hu⟩:∃ u,u=IntKind.i64.wrap (t+1):=⟨_,rfl⟩
 have HU:Hid (u=zcH l.length (fun i=>recT d.tapes.2 2 (l.getD i 0))):=by rw [hu,ht];exact rfl
 have hu':IntKind.i64.wrap (t+1)=u:=hu.symm;clear CT ht hu
 by_cases hb:1000000000<u
 ·go_wp2_with (refine za4 46 _ _ rfl rfl (w.heap.size+1) rfl (cs:=[.int .i64 2,.int .i64 0]) rfl (HT2.out.b2) za1 rfl rfl (zb0 _ _) ?_;intro w9 X9 C9 z9)
  refine zcr Tryz.results15 rfl X9 Tryz.underlying46 za1 rfl rfl ?_;have zz:=C9.size;exact ⟨2,0,rfl,.inr ⟨HX.out,l,HL.out,.inl ⟨by rw [← HU.out];exact hb,rfl,rfl⟩⟩,HT2.out.bel.trans (C9.bel (fun b hb=>by simp at hb;omega) HT2.out.bel.size)⟩
 ·have hd:decide (1000000000<u)=false:=decide_eq_false hb
  go_wp2_with (refine za4 46 _ _ rfl rfl (w.heap.size+1) rfl (cs:=[.int .i64 0,.int .i64 u]) rfl (HT2.out.b2) za1 rfl rfl (zb0 _ _) ?_;intro w9 X9 C9 z9)
  refine zcr Tryz.results15 rfl X9 Tryz.underlying46 za1 rfl rfl ?_;have zz:=C9.size;exact ⟨0,u,rfl,.inr ⟨HX.out,l,HL.out,.inr ⟨by rw [← HU.out];omega,rfl,HU.out⟩⟩,HT2.out.bel.trans (C9.bel (fun b hb=>by simp at hb;omega) HT2.out.bel.size)⟩
end Go.Proofs.YthcmdnlkohdeaaaGreat
namespace Go.Proofs.YthcmdnlkohdeaaaGreat
open Go.ChangeShapes Go.WideShapes Go.ChangeAt Go.RowKit F256
theorem zhx (d:WorldD):∃ c v,NxtAns d c v:=by
 obtain ⟨x,hx⟩:=zgZ d
 by_cases h:x=0
 ·subst h
  obtain ⟨l,hl⟩:=zhg (recT d.tapes.2 2) (lenT d.tapes.2 2)
  by_cases hb:1000000000<zcH l.length (fun i=>recT d.tapes.2 2 (l.getD i 0))
  ·exact ⟨_,_,.inr ⟨hx,l,hl,.inl ⟨hb,rfl,rfl⟩⟩⟩
  ·exact ⟨_,_,.inr ⟨hx,l,hl,.inr ⟨hb,rfl,rfl⟩⟩⟩
 ·exact ⟨x,0,.inl ⟨h,hx,rfl⟩⟩
theorem zfr {d:WorldD} {c v:Int} {w:World} {f:Nat} {args:Array Value} (hq:NxtAns d c v) (h:Calls Tryz.prog f args w (zgN d w)):Calls Tryz.prog f args w fun e w'=>e=.returned (.agg #[.int .i64 c,.int .i64 v])∧Below w.heap.size w w':=
 h.mono fun e w' ⟨c',v',h1,h2,h3⟩=>⟨by rw [h1,(hq.one h2).1,(hq.one h2).2],h3⟩
theorem zgP:(Tryz.prog.info? 46).map (fun i=>(i.zero.map (·.cells),i.size))=some (some #[.int .i64 0,.int .i64 0],2):=by kernel_rfl
set_option maxRecDepth 20000 in
theorem zcu (d:WorldD) (cs:List Value)  (w:World) (rd0:zaj.rd w w.heap.size d cs)  :
 Calls Tryz.prog 4 #[.agg cs.toArray] w fun e w'=>e=.returned (.bool true)∧Below w.heap.size w w':=by
 obtain ⟨v0,v1,v2,v3,v4,v5,v6,v7,v8,vp0,vl0,vq0,vp1,vl1,vq1,vp2,vl2,vq2,v9,v10,vb,rfl⟩:=zgM rd0;have HR:=hid rd0;clear rd0;have T0:=zaB w (rwV v0 v1 v2 v3 v4 v5 v6 v7 v8 vp0 vl0 vq0 vp1 vl1 vq1 vp2 vl2 vq2 v9 v10 vb).toArray 28
 go_enter Tryz.func4,Tryz.ntmps4
 go_wp2_with (refine zaO 28 (.tmp 1) rfl rfl (w.heap.size) rfl T0.b1 Tryz.underlying28 zdK rfl ?_)
 refine (zfO _ d w.heap.size 1048576 _ (zaj.rd_below HR.out T0.bel (Nat.le_refl _)) T0.bel.size (by omega)).mono ?_;rintro e w1 ⟨x,rfl,hx,b1⟩;have T1:=T0.call b1;have HT1:=hid T1;clear b1 T0
 rcases hx with rfl | ⟨hsz,hx⟩
 ·clear T1
  go_wp2;go_ret;exact ⟨rfl,HT1.out.bel⟩
 have hx0:¬ x<0:=by omega
 clear hx;obtain ⟨cc,vv,hq⟩:=zhx d
 have CT:∀ w',Below w1.heap.size w1 w'→Calls Tryz.prog 8 #[.agg (rwV v0 v1 v2 v3 v4 v5 v6 v7 v8 vp0 vl0 vq0 vp1 vl1 vq1 vp2 vl2 vq2 v9 v10 vb).toArray] w' fun e w''=>∃ cs',e=.returned (.agg cs'.toArray)∧OwnT zaj w'' w'.heap.size w''.heap.size d cs'∧Below w'.heap.size w' w'':=fun w' hb=>
  zfG _ d w.heap.size w' (zaj.rd_below (zaj.rd_below HR.out HT1.out.bel (Nat.le_refl _)) hb HT1.out.bel.size) (Nat.le_trans HT1.out.bel.size hb.size) hsz
 have CS:=fun (cs':List Value) (hi:Nat) (w':World) (h1:zaj.rd w' hi d cs') (h2:hi≤w'.heap.size)=>zfr hq (zeF d  cs' hi w' h1 h2 hsz);have CI:=fun (cs':List Value) (hi:Nat) (w':World) (h1:zaj.rd w' hi d cs') (h2:hi≤w'.heap.size)=>zfr hq (zeE d  cs' hi w' h1 h2 hsz);have CE:=fun w'=>zfP cc vv w';unfold intR at CE;have CW:=fun c1 c2 h1 h2 w'=>zfK c1 c2 d h1 h2 w';clear hq hsz
 go_wp2_with (refine zaO 28 (.tmp 1) rfl rfl (w.heap.size) rfl T1.b1 Tryz.underlying28 zdK rfl ?_)
 refine (CT _ (Below.refl _ _)).mono ?_;rintro e w2 ⟨c2,rfl,o2,b2⟩;have z1:w.heap.size<w1.heap.size:=T1.b1.lt;clear T1
 go_wp2_with fail
 refine (CS _ _ _ o2.rd (Nat.le_refl _)).mono ?_;rintro e w3 ⟨rfl,b3⟩;have z2:w1.heap.size≤w2.heap.size:=b2.size;have z3:w2.heap.size≤w3.heap.size:=b3.size;have B3:Below w1.heap.size w1 w3:=b2.trans (b3.mono b2.size);clear o2 b2 b3
 go_upto_region 6 with (refine za9 46 4 (.tmp 14) _ _ 2 rfl rfl rfl rfl rfl rfl rfl rfl zgP rfl rfl (zb0 _ _) ?_)
 have bA:=bAl w3 (.cells #[.int .i64 cc,.int .i64 vv] 46);have S4:=zar w3 #[.int .i64 cc,.int .i64 vv] 46;obtain ⟨W4,hW4⟩:∃ x,x=w3.alloc (.cells #[.int .i64 cc,.int .i64 vv] 46):=⟨_,rfl⟩;rw [← hW4] at bA S4 ⊢;have B4:=B3.trans (bA.mono (by omega));have P4:=HT1.out.call B4;have z4:w3.heap.size<W4.heap.size:=S4.lt;clear bA hW4 B3
 go_wp2_with (refine zaO 28 (.tmp 1) rfl rfl (w.heap.size) rfl P4.b1 Tryz.underlying28 zdK rfl ?_)
 refine (CT _ B4).mono ?_;rintro e w5 ⟨cX,rfl,oX,b5⟩;obtain ⟨x0,x1,x2,x3,x4,x5,x6,x7,x8,xp0,xl0,xq0,xp1,xl1,xq1,xp2,xl2,xq2,x9,x10,xb,rfl⟩:=zha oX;have z5:W4.heap.size≤w5.heap.size:=b5.size;have B5:=B4.trans (b5.mono (by omega));have S5:=S4.call b5;clear P4 b5 B4 S4
 go_upto_region 7 with (refine za9 38 5 (.tmp 16) _ _ 15 rfl rfl rfl rfl rfl rfl rfl rfl zhF rfl rfl oX.one ?_)
 have bA:=bAl w5 (.cells (rwV x0 x1 x2 x3 x4 x5 x6 x7 x8 xp0 xl0 xq0 xp1 xl1 xq1 xp2 xl2 xq2 x9 x10 xb).toArray 38);have X6:=zar w5 (rwV x0 x1 x2 x3 x4 x5 x6 x7 x8 xp0 xl0 xq0 xp1 xl1 xq1 xp2 xl2 xq2 x9 x10 xb).toArray 38;obtain ⟨W6,hW6⟩:∃ x,x=w5.alloc (.cells (rwV x0 x1 x2 x3 x4 x5 x6 x7 x8 xp0 xl0 xq0 xp1 xl1 xq1 xp2 xl2 xq2 x9 x10 xb).toArray 38):=⟨_,rfl⟩;rw [← hW6] at bA X6 ⊢;have B6:=B5.trans (bA.mono (by omega));have S6:=S5.call bA;have OX6:=oX.call bA;have z6:w5.heap.size<W6.heap.size:=X6.lt;clear bA hW6 oX B5 S5
 go_wp2_with (refine zaO 38 (.tmp 5) rfl rfl (w5.heap.size) rfl X6 Tryz.underlying38 zfo rfl ?_)
 refine (CI _ _ _ OX6.rd (by omega)).mono ?_;rintro e w7 ⟨rfl,b7⟩;have z7:W6.heap.size≤w7.heap.size:=b7.size;have B7:=B6.trans (b7.mono (by omega));have S7:=S6.call b7;have X7:=X6.call b7;have OX7:=OX6.call b7;clear b7 B6 S6 X6 OX6
 go_upto_region 8 with (refine za9 46 6 (.tmp 18) _ _ 2 rfl rfl rfl rfl rfl rfl rfl rfl zgP rfl rfl (zb0 _ _) ?_)
 have bA:=bAl w7 (.cells #[.int .i64 cc,.int .i64 vv] 46);have G8:=zar w7 #[.int .i64 cc,.int .i64 vv] 46;obtain ⟨W8,hW8⟩:∃ x,x=w7.alloc (.cells #[.int .i64 cc,.int .i64 vv] 46):=⟨_,rfl⟩;rw [← hW8] at bA G8 ⊢;have B8:=B7.trans (bA.mono (by omega));have S8:=S7.call bA;have X8:=X7.call bA;have OX8:=OX7.call bA;have z8:w7.heap.size<W8.heap.size:=G8.lt;clear bA hW8 B7 S7 X7 OX7
 go_wp2_with (first | (refine zaO 46 (.tmp 6) rfl rfl (w7.heap.size) rfl G8 Tryz.underlying46 za1 rfl ?_) | (refine zaO 46 (.tmp 4) rfl rfl (w3.heap.size) rfl S8 Tryz.underlying46 za1 rfl ?_))
 refine (CE _).mono ?_;rintro e w9 ⟨rfl,b9⟩;have z9:W8.heap.size≤w9.heap.size:=b9.size;have B9:=B8.trans (b9.mono (by omega));have X9:=hid (X8.call b9);have OX9:=hid (OX8.call b9);have HB9:=hid B9;have P9:=hid (HT1.out.call B9);have CTc:=fun w' (hb:Below w9.heap.size w9 w')=>CT w' (HB9.out.trans (hb.mono (by omega)));clear b9 B8 S8 X8 OX8 G8 B9
 go_upto_region 10 with fail
 go_cut [27] (fun v wx=>v=.bool false∧Below w9.heap.size w9 wx)
 case first=>
  have KS:∀ w',Below w9.heap.size w9 w'→(Box w' (w5.heap.size) (rwV x0 x1 x2 x3 x4 x5 x6 x7 x8 xp0 xl0 xq0 xp1 xl1 xq1 xp2 xl2 xq2 x9 x10 xb).toArray 38∧Box w' (w.heap.size) (rwV v0 v1 v2 v3 v4 v5 v6 v7 v8 vp0 vl0 vq0 vp1 vl1 vq1 vp2 vl2 vq2 v9 v10 vb).toArray 28):=fun w' hb=>⟨(X9.out).call hb,(P9.out.b1).call hb⟩;have B0:Below w9.heap.size w9 w9.drew:=zfS _;refine zc8 4 (fun w'=>Box w' (w5.heap.size) (rwV x0 x1 x2 x3 x4 x5 x6 x7 x8 xp0 xl0 xq0 xp1 xl1 xq1 xp2 xl2 xq2 x9 x10 xb).toArray 38∧Box w' (w.heap.size) (rwV v0 v1 v2 v3 v4 v5 v6 v7 v8 vp0 vl0 vq0 vp1 vl1 vq1 vp2 vl2 vq2 v9 v10 vb).toArray 28) (by kernel_rfl) (KS _ B0) (fun hHeld=>?_);refine zaw (i:=0) (oi:=_) 16 rfl (by kernel_rfl) (fun _ _ _ h=>h) (zdy 38 (.tmp 5) rfl rfl (w5.heap.size) rfl (cs:=(rwV x0 x1 x2 x3 x4 x5 x6 x7 x8 xp0 xl0 xq0 xp1 xl1 xq1 xp2 xl2 xq2 x9 x10 xb)) (fun w' h=>h.1) Tryz.underlying38 zfo rfl) (by assumption) ?_
  try simp only [Act.put,SL]
  refine zaw (i:=1) (oi:=_) 16 rfl (by kernel_rfl) (fun _ _ _ h=>h) (zdy 28 (.tmp 1) rfl rfl (w.heap.size) rfl (cs:=(rwV v0 v1 v2 v3 v4 v5 v6 v7 v8 vp0 vl0 vq0 vp1 vl1 vq1 vp2 vl2 vq2 v9 v10 vb)) (fun w' h=>h.2) Tryz.underlying28 zdK rfl) (by assumption) ?_
  try simp only [Act.put,SL]
  refine zbe (i:=2) (o:=_) rfl (by kernel_rfl) (fun KC hKC=>?_);refine zbL rfl 8 _ _ rfl #[.agg (rwV v0 v1 v2 v3 v4 v5 v6 v7 v8 vp0 vl0 vq0 vp1 vl1 vq1 vp2 vl2 vq2 v9 v10 vb).toArray] ?_ Tryz.func8 (by kernel_rfl) (by kernel_rfl) (CTc _ B0) ?_
  ·simp [Act.eval,Act.put]
  rintro ee wb ⟨cs',rfl,oR,bb⟩;have bR:Below w9.heap.size w9 wb:=B0.trans (bb.mono B0.size);refine ⟨_,rfl,?_⟩;refine hKC.out _ _ (KS _ bR) (fun hHeld=>?_);clear hKC KC
  try simp only [Act.put,SL]
  refine zbe (i:=3) (o:=_) rfl (by kernel_rfl) (fun KC hKC=>?_);refine zbL rfl 11 _ _ rfl #[.agg (rwV x0 x1 x2 x3 x4 x5 x6 x7 x8 xp0 xl0 xq0 xp1 xl1 xq1 xp2 xl2 xq2 x9 x10 xb).toArray,.agg cs'.toArray] ?_ Tryz.func11 (by kernel_rfl) (by kernel_rfl) (CW _ _ _ _ _ ((OX9.out).call bR).rd oR.rd (Nat.le_trans (by omega) bR.size) (Nat.le_refl _)) ?_
  ·simp [Act.eval,Act.put]
  rintro ee wc' ⟨rfl,bc⟩;have bC:Below w9.heap.size w9 wc':=bR.trans (bc.mono bR.size);refine ⟨_,rfl,?_⟩;refine hKC.out _ _ (KS _ bC) (fun hHeld=>?_);clear hKC KC
  try simp only [Act.put,SL]
  refine zc6 (o:=_) rfl (by kernel_rfl) (fun KC hKC=>?_);go_simp;refine hKC.out _ _ ?_;clear hKC KC
  try simp only [Act.put,SL]
  refine zc7 (by kernel_rfl) ?_ _;go_wp2
  go_meet
  exact ⟨rfl,bC⟩
 case rest=>
 obtain ⟨rfl,b10⟩:=hcut;have HB:Hid (Below w.heap.size w wc):=(P9.out.call b10).bel;clear b10 CTc;go_wp2;go_ret;exact ⟨rfl,HB.out⟩
set_option maxRecDepth 100000 in
theorem zcb (os:Os) (started:os.Started) (H:Type) (enc:TypeId×Value→H) :
 ReturnsInHanded {} Tryz.checked os 4 .any (Rows.fnExactNextSeqSpec.pre6 enc Tryz.prog Tryz.f4 Rows.fnExactNextSeqRow.domain false) (Rows.fnExactNextSeqSpec.post enc Tryz.prog Tryz.f4 false true false false):=by
 refine returnsInHanded_of_change (C:=Tryz.checked) zgb started (by kernel_rfl) Tryz.func4
  (ChangeSpec.witness6 (enc:=enc) (C:=Tryz.checked) false ⟨#[],#[.agg (rwV 0 0 0 0 0 0 0 0 0 none 0 0 none 0 0 none 0 0 0 0 false).toArray],[]⟩ 8 (by kernel_rfl) (by kernel_rfl) (by kernel_rfl) (by kernel_rfl)) ?_
 intro W base args ds gs before hval0 hW hcnd _;have hval:∀ (j:Nat) t v,Tryz.f4.params[j]?=some t→args[j]?=some v→Value.okWide Tryz.prog W .any base t v:=hval0;have hW':=hW;obtain ⟨p,q,hA0,hV,rfl,hfz,hnd⟩:=hW;have hA:DataW.TrodAll enc Tryz.prog W 0 (fun _=>true) true Tryz.f4.params.toList args.toList ds p:=hA0;rw [Tryz.params4] at hA hval;obtain ⟨v0,vs0,d0,ds0,p0,q0,hargs,rfl,rfl,h0,r0⟩:=trodAll_cons hA;obtain ⟨rfl,rfl,rfl⟩:=trodAll_nil r0
 obtain rfl:args=#[v0]:=by cases args;simp_all
 obtain ⟨rfl,rfl⟩:=trodVars_none hV;have k0:=h0
 have lt0:∀ x∈p0,x.block<W.heap.size:=by obtain ⟨m,hm⟩:=k0;exact DataW.trod_lt m _ _ _ hm
 obtain ⟨cs0,a0,rfl,rd0⟩:=zdn zfx Tryz.underlying28 (hval 0 28 v0 rfl rfl) h0;clear hA0 hval0;refine (zcu a0 cs0 W rd0).mono fun e W' ⟨he,bel⟩=>?_;subst he;exact ⟨_,rfl,_,_,_,[],_,[],hW',trodAll_mk1 (shut_bool Tryz.underlying4 _),(trodAll_cons_mk (Below.trod zfs (by kernel_rfl) (of_decide_eq_true (by kernel_rfl)) k0 bel lt0) trodAll_mk0),rfl,bel.frame _,fun h=>by cases h⟩
end Go.Proofs.YthcmdnlkohdeaaaGreat
