/- Walks of the specification's WorldFault where the form of a world has a fault. -/
import Derived.Test.YtajibninhikdgaaGreatZPspentak
set_option linter.unusedVariables false
set_option linter.unusedSimpArgs false
set_option maxHeartbeats 16000000
namespace Go.Proofs.YtajibninhikdgaaGreat
open Go.RowKit F256
set_option maxRecDepth 20000 in
theorem zhL (d:WorldD) (cs:List Value) (hi:Nat) (w:World) (h:zan.rd w hi d cs) (hhi:hi≤w.heap.size) (hnm:∀ t,t<d.tapes.1→∀ i,i<(d.tapes.2 t).recs.1→((d.tapes.2 t).recs.2 i).name.size≤1048576) (hok':zah d.shape) (hsel:¬ (zcP d∧zbZ d.on.1 d.on.2 (d.shape 0+d.shape 1-1))) :
 Calls Tryz.prog 16 #[.agg cs.toArray] w (zc0 d w):=by
 obtain ⟨ao1,cap1,ao2,cap2,ao3,cap3,rfl,g1,g2,g3,-⟩:=za4 h;have HRD:=hid h;obtain ⟨v2,e2,⟨h2,hcp2⟩,_⟩:=g2
 cases e2
 have H2:=hid h2;have HCP:=hid hcp2;have hm2:=h2.mx;obtain ⟨_,_,e3,hm3,hc3⟩:=g3
 cases e3
 unfold maxLen at hm2 hm3;have HC3:=hid hc3;have HNM:=hid hnm;clear h h2 hcp2 hc3 g1 hnm;have T0:=zaE w (rwW d ao1 cap1 ao2 cap2 ao3 cap3).toArray 38;have CSh:=fun w'=>zbt d.shape w';unfold zae at CSh
 go_enter Tryz.func16,Tryz.ntmps16
 go_wp2_with fail
 refine (CSh _).mono ?_;rintro e w1 ⟨x,rfl,hx,b1⟩;have T1:One w w1 (rwW d ao1 cap1 ao2 cap2 ao3 cap3).toArray 38:=T0.call b1;have HT1:=hid T1;clear b1 T0 CSh;have x1_0:w1.cell? ⟨w.heap.size,0,none⟩=some (.int .i64 (d.shape 0)):=T1.b1.cell 0;have kx1_0:=cell_regrown x1_0;have x1_1:w1.cell? ⟨w.heap.size,1,none⟩=some (.int .i64 (d.shape 1)):=T1.b1.cell 1;have kx1_1:=cell_regrown x1_1;have x1_2:w1.cell? ⟨w.heap.size,2,none⟩=some (.int .i64 (d.shape 2)):=T1.b1.cell 2;have kx1_2:=cell_regrown x1_2;have x1_3:w1.cell? ⟨w.heap.size,3,none⟩=some (.int .i64 (d.shape 3)):=T1.b1.cell 3;have kx1_3:=cell_regrown x1_3;have x1_4:w1.cell? ⟨w.heap.size,4,none⟩=some (.int .i64 (d.shape 4)):=T1.b1.cell 4;have kx1_4:=cell_regrown x1_4;have x1_5:w1.cell? ⟨w.heap.size,5,none⟩=some (.int .i64 (d.shape 5)):=T1.b1.cell 5;have kx1_5:=cell_regrown x1_5;have x1_6:w1.cell? ⟨w.heap.size,6,none⟩=some (.int .i64 (d.shape 6)):=T1.b1.cell 6;have kx1_6:=cell_regrown x1_6;have x1_7:w1.cell? ⟨w.heap.size,7,none⟩=some (.int .i64 (d.shape 7)):=T1.b1.cell 7;have kx1_7:=cell_regrown x1_7;have x1_8:w1.cell? ⟨w.heap.size,8,none⟩=some (.int .i64 (d.shape 8)):=T1.b1.cell 8;have kx1_8:=cell_regrown x1_8;have x1_9:w1.cell? ⟨w.heap.size,9,none⟩=some (.slice ao1 d.groups.1 cap1):=T1.b1.cell 9;have kx1_9:=cell_regrown x1_9;have x1_10:w1.cell? ⟨w.heap.size,10,none⟩=some (.slice ao2 d.on.1 cap2):=T1.b1.cell 10;have kx1_10:=cell_regrown x1_10;have x1_11:w1.cell? ⟨w.heap.size,11,none⟩=some (.slice ao3 d.tapes.1 cap3):=T1.b1.cell 11;have kx1_11:=cell_regrown x1_11;have x1_12:w1.cell? ⟨w.heap.size,12,none⟩=some (.int .i64 d.writes):=T1.b1.cell 12;have kx1_12:=cell_regrown x1_12;have x1_13:w1.cell? ⟨w.heap.size,13,none⟩=some (.int .i64 d.stop):=T1.b1.cell 13;have kx1_13:=cell_regrown x1_13;have x1_14:w1.cell? ⟨w.heap.size,14,none⟩=some (.bool d.down):=T1.b1.cell 14;have kx1_14:=cell_regrown x1_14;clear T1
 rcases hx with ⟨rfl,hno⟩ | ⟨rfl,hok⟩
 ·go_wp2
  go_ret;exact wldP rfl (Stair.fall hno) HT1.out.bel
 have HOK:=hid hok
 have hsb:1≤d.shape 0∧d.shape 0≤4∧0≤d.shape 1∧d.shape 1≤2:=by
  obtain ⟨h1,_⟩:=hok;unfold Shp3 at h1;omega
 clear hok;obtain ⟨t1,h1⟩:=exB (zcP d);obtain ⟨t2,h2⟩:=exB (zbZ d.on.1 d.on.2 (d.shape 0+d.shape 1-1));obtain ⟨b3',h3⟩:∃ b,decide (d.shape 5<(d.on.1:Int))=b:=⟨_,rfl⟩;obtain ⟨g',h4⟩:∃ b,decide (0<d.on.1)=b:=⟨_,rfl⟩;obtain ⟨b5',h5⟩:∃ b,((d.tapes.1:Int) != 2)=b:=⟨_,rfl⟩;have c1:=zaG (W:=w1) (fun w' hw'=>zbb (zcJ d HOK.out _ hi w' (zan.rd_below (zan.rd_below HRD.out HT1.out.bel hhi) hw' (Nat.le_trans hhi HT1.out.bel.size)) (Nat.le_trans hhi (Nat.le_trans HT1.out.bel.size hw'.size))) h1);have c2:=zaG (W:=w1) (fun w' hw'=>zbb (zce _ d.on.1 d.on.2 hi (d.shape 0+d.shape 1-1) w' ((H2.out.below HT1.out.bel hhi).below hw' (Nat.le_trans hhi HT1.out.bel.size)) HCP.out (Nat.le_trans hhi (Nat.le_trans HT1.out.bel.size hw'.size))) h2);have cA:=zaG (W:=w1) (fun w' _=>zbI d.shape HOK.out w');unfold zae at cA
 have wsA:IntKind.i64.wrap (d.shape 0+d.shape 1-1)=d.shape 0+d.shape 1-1:=by rw [IntKind.wrap_i64];omega
 have h4':decide (0<(d.on.1:Int))=g':=by rw [← h4];simp
 obtain ⟨dn,hdn⟩:∃ x,x=d.down:=⟨_,rfl⟩
 have HE:Hid (zcz d↔(t1=true∧t2=true∧b3'=false∧(dn=true→g'=false)∧b5'=false)):=by
  show zcz d↔_
  have e3:(decide (d.shape 5<(d.on.1:Int))=false)↔(d.on.1:Int)≤d.shape 5:=by simp
  have e4:(decide (0<d.on.1)=false)↔d.on.1=0:=by simp
  have e5:(((d.tapes.1:Int) != 2)=false)↔d.tapes.1=2:=by simp;omega
  rw [h1,h2,← h3,← h4,← h5,hdn,e3,e4,e5];unfold zcz OnP
  constructor
  ·rintro ⟨a,⟨b,c,e⟩,f⟩
   exact ⟨a,b,c,e,f⟩
  ·rintro ⟨a,b,c,e,f⟩
   exact ⟨a,⟨b,c,e⟩,f⟩
 have hst:t1=false∨(t1=true∧t2=false):=by
  clear HE c1 c2
  cases t1 with
  | false=>exact .inl rfl
  | true=>
   cases t2 with
   | false=>exact .inr ⟨rfl,rfl⟩
   | true=>exact absurd ⟨h1.1 rfl,h2.1 rfl⟩ hsel
 have HNF:Hid (¬ zcz d):=fun h=>by
  obtain ⟨a,⟨b,c,e⟩,f⟩:=h;exact hsel ⟨a,b⟩
 rw [← hdn] at x1_14 kx1_14 c1;clear h1 h2 hsel hok'
 go_upto_region 4 with fail
 clear hdn
 rcases hst with rfl | ⟨rfl,rfl⟩
 all_goals
  refine WQ.region (by kernel_rfl) (by kernel_rfl) ?_
  repeat (first | (apply WQ.free;(case hw=>rfl);intro K hK;go_simp;first | (apply hK;clear hK K) | (apply Exists.intro;apply And.intro;(case left=>intro p;(first | (go_at_call 41;exact c1 _ _) | (go_at_call 42;exact c2 _ _) | (go_at_call 43;exact cA _ _)));apply hK;clear hK K)) | (apply WQ.skip;(case hw=>rfl);intro K hK;go_simp;apply hK;clear hK K) | (apply WQ.want;(case hw=>rfl);intro K hK;go_simp;first | (apply hK;clear hK K) | (apply Exists.intro;apply And.intro;(case left=>intro p;(first | (go_at_call 41;exact c1 _ _) | (go_at_call 42;exact c2 _ _) | (go_at_call 43;exact cA _ _)));apply hK;clear hK K)))
  refine WQ.nil ?_;intro w2 hw2;have HB2:Hid (Below w.heap.size w w2):=(HT1.out.call (zaB hw2)).bel;clear hw2;go_wp2;go_ret;exact wldP rfl (Stair.pass HOK.out (Stair.fall HNF.out)) HB2.out
set_option maxRecDepth 20000 in
theorem zhM (d:WorldD) (cs:List Value) (hi:Nat) (w:World) (h:zan.rd w hi d cs) (hhi:hi≤w.heap.size) (hnm:∀ t,t<d.tapes.1→∀ i,i<(d.tapes.2 t).recs.1→((d.tapes.2 t).recs.2 i).name.size≤1048576) (hok':zah d.shape) (hsel:zcP d∧zbZ d.on.1 d.on.2 (d.shape 0+d.shape 1-1)∧¬ ((d.on.1:Int)≤d.shape 5∧(d.down=true→d.on.1=0))) :
 Calls Tryz.prog 16 #[.agg cs.toArray] w (zc0 d w):=by
 obtain ⟨ao1,cap1,ao2,cap2,ao3,cap3,rfl,g1,g2,g3,-⟩:=za4 h;have HRD:=hid h;obtain ⟨v2,e2,⟨h2,hcp2⟩,_⟩:=g2
 cases e2
 have H2:=hid h2;have HCP:=hid hcp2;have hm2:=h2.mx;obtain ⟨_,_,e3,hm3,hc3⟩:=g3
 cases e3
 unfold maxLen at hm2 hm3;have HC3:=hid hc3;have HNM:=hid hnm;clear h h2 hcp2 hc3 g1 hnm;have T0:=zaE w (rwW d ao1 cap1 ao2 cap2 ao3 cap3).toArray 38;have CSh:=fun w'=>zbt d.shape w';unfold zae at CSh
 go_enter Tryz.func16,Tryz.ntmps16
 go_wp2_with fail
 refine (CSh _).mono ?_;rintro e w1 ⟨x,rfl,hx,b1⟩;have T1:One w w1 (rwW d ao1 cap1 ao2 cap2 ao3 cap3).toArray 38:=T0.call b1;have HT1:=hid T1;clear b1 T0 CSh;have x1_0:w1.cell? ⟨w.heap.size,0,none⟩=some (.int .i64 (d.shape 0)):=T1.b1.cell 0;have kx1_0:=cell_regrown x1_0;have x1_1:w1.cell? ⟨w.heap.size,1,none⟩=some (.int .i64 (d.shape 1)):=T1.b1.cell 1;have kx1_1:=cell_regrown x1_1;have x1_2:w1.cell? ⟨w.heap.size,2,none⟩=some (.int .i64 (d.shape 2)):=T1.b1.cell 2;have kx1_2:=cell_regrown x1_2;have x1_3:w1.cell? ⟨w.heap.size,3,none⟩=some (.int .i64 (d.shape 3)):=T1.b1.cell 3;have kx1_3:=cell_regrown x1_3;have x1_4:w1.cell? ⟨w.heap.size,4,none⟩=some (.int .i64 (d.shape 4)):=T1.b1.cell 4;have kx1_4:=cell_regrown x1_4;have x1_5:w1.cell? ⟨w.heap.size,5,none⟩=some (.int .i64 (d.shape 5)):=T1.b1.cell 5;have kx1_5:=cell_regrown x1_5;have x1_6:w1.cell? ⟨w.heap.size,6,none⟩=some (.int .i64 (d.shape 6)):=T1.b1.cell 6;have kx1_6:=cell_regrown x1_6;have x1_7:w1.cell? ⟨w.heap.size,7,none⟩=some (.int .i64 (d.shape 7)):=T1.b1.cell 7;have kx1_7:=cell_regrown x1_7;have x1_8:w1.cell? ⟨w.heap.size,8,none⟩=some (.int .i64 (d.shape 8)):=T1.b1.cell 8;have kx1_8:=cell_regrown x1_8;have x1_9:w1.cell? ⟨w.heap.size,9,none⟩=some (.slice ao1 d.groups.1 cap1):=T1.b1.cell 9;have kx1_9:=cell_regrown x1_9;have x1_10:w1.cell? ⟨w.heap.size,10,none⟩=some (.slice ao2 d.on.1 cap2):=T1.b1.cell 10;have kx1_10:=cell_regrown x1_10;have x1_11:w1.cell? ⟨w.heap.size,11,none⟩=some (.slice ao3 d.tapes.1 cap3):=T1.b1.cell 11;have kx1_11:=cell_regrown x1_11;have x1_12:w1.cell? ⟨w.heap.size,12,none⟩=some (.int .i64 d.writes):=T1.b1.cell 12;have kx1_12:=cell_regrown x1_12;have x1_13:w1.cell? ⟨w.heap.size,13,none⟩=some (.int .i64 d.stop):=T1.b1.cell 13;have kx1_13:=cell_regrown x1_13;have x1_14:w1.cell? ⟨w.heap.size,14,none⟩=some (.bool d.down):=T1.b1.cell 14;have kx1_14:=cell_regrown x1_14;clear T1
 rcases hx with ⟨rfl,hno⟩ | ⟨rfl,hok⟩
 ·go_wp2
  go_ret;exact wldP rfl (Stair.fall hno) HT1.out.bel
 have HOK:=hid hok
 have hsb:1≤d.shape 0∧d.shape 0≤4∧0≤d.shape 1∧d.shape 1≤2:=by
  obtain ⟨h1,_⟩:=hok;unfold Shp3 at h1;omega
 clear hok;obtain ⟨t1,h1⟩:=exB (zcP d);obtain ⟨t2,h2⟩:=exB (zbZ d.on.1 d.on.2 (d.shape 0+d.shape 1-1));obtain ⟨b3',h3⟩:∃ b,decide (d.shape 5<(d.on.1:Int))=b:=⟨_,rfl⟩;obtain ⟨g',h4⟩:∃ b,decide (0<d.on.1)=b:=⟨_,rfl⟩;obtain ⟨b5',h5⟩:∃ b,((d.tapes.1:Int) != 2)=b:=⟨_,rfl⟩;have c1:=zaG (W:=w1) (fun w' hw'=>zbb (zcJ d HOK.out _ hi w' (zan.rd_below (zan.rd_below HRD.out HT1.out.bel hhi) hw' (Nat.le_trans hhi HT1.out.bel.size)) (Nat.le_trans hhi (Nat.le_trans HT1.out.bel.size hw'.size))) h1);have c2:=zaG (W:=w1) (fun w' hw'=>zbb (zce _ d.on.1 d.on.2 hi (d.shape 0+d.shape 1-1) w' ((H2.out.below HT1.out.bel hhi).below hw' (Nat.le_trans hhi HT1.out.bel.size)) HCP.out (Nat.le_trans hhi (Nat.le_trans HT1.out.bel.size hw'.size))) h2);have cA:=zaG (W:=w1) (fun w' _=>zbI d.shape HOK.out w');unfold zae at cA
 have wsA:IntKind.i64.wrap (d.shape 0+d.shape 1-1)=d.shape 0+d.shape 1-1:=by rw [IntKind.wrap_i64];omega
 have h4':decide (0<(d.on.1:Int))=g':=by rw [← h4];simp
 obtain ⟨dn,hdn⟩:∃ x,x=d.down:=⟨_,rfl⟩
 have HE:Hid (zcz d↔(t1=true∧t2=true∧b3'=false∧(dn=true→g'=false)∧b5'=false)):=by
  show zcz d↔_
  have e3:(decide (d.shape 5<(d.on.1:Int))=false)↔(d.on.1:Int)≤d.shape 5:=by simp
  have e4:(decide (0<d.on.1)=false)↔d.on.1=0:=by simp
  have e5:(((d.tapes.1:Int) != 2)=false)↔d.tapes.1=2:=by simp;omega
  rw [h1,h2,← h3,← h4,← h5,hdn,e3,e4,e5];unfold zcz OnP
  constructor
  ·rintro ⟨a,⟨b,c,e⟩,f⟩
   exact ⟨a,b,c,e,f⟩
  ·rintro ⟨a,b,c,e,f⟩
   exact ⟨a,⟨b,c,e⟩,f⟩
 have hst:(t1=true∧t2=true∧b3'=true)∨(t1=true∧t2=true∧b3'=false∧dn=true∧g'=true):=by
  clear HE c1 c2;have e1:=h1.2 hsel.1;have e2:=h2.2 hsel.2.1
  cases b3' with
  | true=>exact .inl ⟨e1,e2,rfl⟩
  | false=>
   have hc:(d.on.1:Int)≤d.shape 5:=by simpa using h3
   have hd:dn=true:=by
    cases dn with
    | true=>rfl
    | false=>exact absurd ⟨hc,fun h=>by rw [← hdn] at h;cases h⟩ hsel.2.2
   have hg:g'=true:=by
    cases g' with
    | true=>rfl
    | false=>exact absurd ⟨hc,fun _=>by simpa using h4⟩ hsel.2.2
   exact .inr ⟨e1,e2,rfl,hd,hg⟩
 have HNF:Hid (¬ zcz d):=fun h=>by
  obtain ⟨a,⟨b,c,e⟩,f⟩:=h;exact hsel.2.2 ⟨c,e⟩
 rw [← hdn] at x1_14 kx1_14 c1;clear h1 h2 hsel hok'
 go_upto_region 4 with fail
 clear hdn
 rcases hst with ⟨rfl,rfl,rfl⟩ | ⟨rfl,rfl,rfl,rfl,rfl⟩
 all_goals
  refine WQ.region (by kernel_rfl) (by kernel_rfl) ?_
  repeat (first | (apply WQ.free;(case hw=>rfl);intro K hK;go_simp;first | (apply hK;clear hK K) | (apply Exists.intro;apply And.intro;(case left=>intro p;(first | (go_at_call 41;exact c1 _ _) | (go_at_call 42;exact c2 _ _) | (go_at_call 43;exact cA _ _)));apply hK;clear hK K)) | (apply WQ.skip;(case hw=>rfl);intro K hK;go_simp;apply hK;clear hK K) | (apply WQ.want;(case hw=>rfl);intro K hK;go_simp;first | (apply hK;clear hK K) | (apply Exists.intro;apply And.intro;(case left=>intro p;(first | (go_at_call 41;exact c1 _ _) | (go_at_call 42;exact c2 _ _) | (go_at_call 43;exact cA _ _)));apply hK;clear hK K)))
  refine WQ.nil ?_;intro w2 hw2;have HB2:Hid (Below w.heap.size w w2):=(HT1.out.call (zaB hw2)).bel;clear hw2;go_wp2;go_ret;exact wldP rfl (Stair.pass HOK.out (Stair.fall HNF.out)) HB2.out
set_option maxRecDepth 20000 in
theorem zhN (d:WorldD) (cs:List Value) (hi:Nat) (w:World) (h:zan.rd w hi d cs) (hhi:hi≤w.heap.size) (hnm:∀ t,t<d.tapes.1→∀ i,i<(d.tapes.2 t).recs.1→((d.tapes.2 t).recs.2 i).name.size≤1048576) (hok':zah d.shape) (hsel:zcP d∧zbZ d.on.1 d.on.2 (d.shape 0+d.shape 1-1)∧((d.on.1:Int)≤d.shape 5∧(d.down=true→d.on.1=0))∧d.tapes.1≠2) :
 Calls Tryz.prog 16 #[.agg cs.toArray] w (zc0 d w):=by
 obtain ⟨ao1,cap1,ao2,cap2,ao3,cap3,rfl,g1,g2,g3,-⟩:=za4 h;have HRD:=hid h;obtain ⟨v2,e2,⟨h2,hcp2⟩,_⟩:=g2
 cases e2
 have H2:=hid h2;have HCP:=hid hcp2;have hm2:=h2.mx;obtain ⟨_,_,e3,hm3,hc3⟩:=g3
 cases e3
 unfold maxLen at hm2 hm3;have HC3:=hid hc3;have HNM:=hid hnm;clear h h2 hcp2 hc3 g1 hnm;have T0:=zaE w (rwW d ao1 cap1 ao2 cap2 ao3 cap3).toArray 38;have CSh:=fun w'=>zbt d.shape w';unfold zae at CSh
 go_enter Tryz.func16,Tryz.ntmps16
 go_wp2_with fail
 refine (CSh _).mono ?_;rintro e w1 ⟨x,rfl,hx,b1⟩;have T1:One w w1 (rwW d ao1 cap1 ao2 cap2 ao3 cap3).toArray 38:=T0.call b1;have HT1:=hid T1;clear b1 T0 CSh;have x1_0:w1.cell? ⟨w.heap.size,0,none⟩=some (.int .i64 (d.shape 0)):=T1.b1.cell 0;have kx1_0:=cell_regrown x1_0;have x1_1:w1.cell? ⟨w.heap.size,1,none⟩=some (.int .i64 (d.shape 1)):=T1.b1.cell 1;have kx1_1:=cell_regrown x1_1;have x1_2:w1.cell? ⟨w.heap.size,2,none⟩=some (.int .i64 (d.shape 2)):=T1.b1.cell 2;have kx1_2:=cell_regrown x1_2;have x1_3:w1.cell? ⟨w.heap.size,3,none⟩=some (.int .i64 (d.shape 3)):=T1.b1.cell 3;have kx1_3:=cell_regrown x1_3;have x1_4:w1.cell? ⟨w.heap.size,4,none⟩=some (.int .i64 (d.shape 4)):=T1.b1.cell 4;have kx1_4:=cell_regrown x1_4;have x1_5:w1.cell? ⟨w.heap.size,5,none⟩=some (.int .i64 (d.shape 5)):=T1.b1.cell 5;have kx1_5:=cell_regrown x1_5;have x1_6:w1.cell? ⟨w.heap.size,6,none⟩=some (.int .i64 (d.shape 6)):=T1.b1.cell 6;have kx1_6:=cell_regrown x1_6;have x1_7:w1.cell? ⟨w.heap.size,7,none⟩=some (.int .i64 (d.shape 7)):=T1.b1.cell 7;have kx1_7:=cell_regrown x1_7;have x1_8:w1.cell? ⟨w.heap.size,8,none⟩=some (.int .i64 (d.shape 8)):=T1.b1.cell 8;have kx1_8:=cell_regrown x1_8;have x1_9:w1.cell? ⟨w.heap.size,9,none⟩=some (.slice ao1 d.groups.1 cap1):=T1.b1.cell 9;have kx1_9:=cell_regrown x1_9;have x1_10:w1.cell? ⟨w.heap.size,10,none⟩=some (.slice ao2 d.on.1 cap2):=T1.b1.cell 10;have kx1_10:=cell_regrown x1_10;have x1_11:w1.cell? ⟨w.heap.size,11,none⟩=some (.slice ao3 d.tapes.1 cap3):=T1.b1.cell 11;have kx1_11:=cell_regrown x1_11;have x1_12:w1.cell? ⟨w.heap.size,12,none⟩=some (.int .i64 d.writes):=T1.b1.cell 12;have kx1_12:=cell_regrown x1_12;have x1_13:w1.cell? ⟨w.heap.size,13,none⟩=some (.int .i64 d.stop):=T1.b1.cell 13;have kx1_13:=cell_regrown x1_13;have x1_14:w1.cell? ⟨w.heap.size,14,none⟩=some (.bool d.down):=T1.b1.cell 14;have kx1_14:=cell_regrown x1_14;clear T1
 rcases hx with ⟨rfl,hno⟩ | ⟨rfl,hok⟩
 ·go_wp2
  go_ret;exact wldP rfl (Stair.fall hno) HT1.out.bel
 have HOK:=hid hok
 have hsb:1≤d.shape 0∧d.shape 0≤4∧0≤d.shape 1∧d.shape 1≤2:=by
  obtain ⟨h1,_⟩:=hok;unfold Shp3 at h1;omega
 clear hok;obtain ⟨t1,h1⟩:=exB (zcP d);obtain ⟨t2,h2⟩:=exB (zbZ d.on.1 d.on.2 (d.shape 0+d.shape 1-1));obtain ⟨b3',h3⟩:∃ b,decide (d.shape 5<(d.on.1:Int))=b:=⟨_,rfl⟩;obtain ⟨g',h4⟩:∃ b,decide (0<d.on.1)=b:=⟨_,rfl⟩;obtain ⟨b5',h5⟩:∃ b,((d.tapes.1:Int) != 2)=b:=⟨_,rfl⟩;have c1:=zaG (W:=w1) (fun w' hw'=>zbb (zcJ d HOK.out _ hi w' (zan.rd_below (zan.rd_below HRD.out HT1.out.bel hhi) hw' (Nat.le_trans hhi HT1.out.bel.size)) (Nat.le_trans hhi (Nat.le_trans HT1.out.bel.size hw'.size))) h1);have c2:=zaG (W:=w1) (fun w' hw'=>zbb (zce _ d.on.1 d.on.2 hi (d.shape 0+d.shape 1-1) w' ((H2.out.below HT1.out.bel hhi).below hw' (Nat.le_trans hhi HT1.out.bel.size)) HCP.out (Nat.le_trans hhi (Nat.le_trans HT1.out.bel.size hw'.size))) h2);have cA:=zaG (W:=w1) (fun w' _=>zbI d.shape HOK.out w');unfold zae at cA
 have wsA:IntKind.i64.wrap (d.shape 0+d.shape 1-1)=d.shape 0+d.shape 1-1:=by rw [IntKind.wrap_i64];omega
 have h4':decide (0<(d.on.1:Int))=g':=by rw [← h4];simp
 obtain ⟨dn,hdn⟩:∃ x,x=d.down:=⟨_,rfl⟩
 have HE:Hid (zcz d↔(t1=true∧t2=true∧b3'=false∧(dn=true→g'=false)∧b5'=false)):=by
  show zcz d↔_
  have e3:(decide (d.shape 5<(d.on.1:Int))=false)↔(d.on.1:Int)≤d.shape 5:=by simp
  have e4:(decide (0<d.on.1)=false)↔d.on.1=0:=by simp
  have e5:(((d.tapes.1:Int) != 2)=false)↔d.tapes.1=2:=by simp;omega
  rw [h1,h2,← h3,← h4,← h5,hdn,e3,e4,e5];unfold zcz OnP
  constructor
  ·rintro ⟨a,⟨b,c,e⟩,f⟩
   exact ⟨a,b,c,e,f⟩
  ·rintro ⟨a,b,c,e,f⟩
   exact ⟨a,⟨b,c,e⟩,f⟩
 have hst:(t1=true∧t2=true∧b3'=false∧dn=true∧g'=false∧b5'=true)∨(t1=true∧t2=true∧b3'=false∧dn=false∧b5'=true):=by
  clear HE c1 c2;have e1:=h1.2 hsel.1;have e2:=h2.2 hsel.2.1
  have e3:b3'=false:=by rw [← h3];simpa using hsel.2.2.1.1
  have e5:b5'=true:=by rw [← h5];have:=hsel.2.2.2;simp;omega
  cases dn with
  | false=>exact .inr ⟨e1,e2,e3,rfl,e5⟩
  | true=>exact .inl ⟨e1,e2,e3,rfl,by rw [← h4];have:=hsel.2.2.1.2 hdn.symm;simp;omega,e5⟩
 have HNF:Hid (¬ zcz d):=fun h=>by
  obtain ⟨a,⟨b,c,e⟩,f⟩:=h;exact hsel.2.2.2 f
 rw [← hdn] at x1_14 kx1_14 c1;clear h1 h2 hsel hok'
 go_upto_region 4 with fail
 clear hdn
 rcases hst with ⟨rfl,rfl,rfl,rfl,rfl,rfl⟩ | ⟨rfl,rfl,rfl,rfl,rfl⟩
 all_goals
  refine WQ.region (by kernel_rfl) (by kernel_rfl) ?_
  repeat (first | (apply WQ.free;(case hw=>rfl);intro K hK;go_simp;first | (apply hK;clear hK K) | (apply Exists.intro;apply And.intro;(case left=>intro p;(first | (go_at_call 41;exact c1 _ _) | (go_at_call 42;exact c2 _ _) | (go_at_call 43;exact cA _ _)));apply hK;clear hK K)) | (apply WQ.skip;(case hw=>rfl);intro K hK;go_simp;apply hK;clear hK K) | (apply WQ.want;(case hw=>rfl);intro K hK;go_simp;first | (apply hK;clear hK K) | (apply Exists.intro;apply And.intro;(case left=>intro p;(first | (go_at_call 41;exact c1 _ _) | (go_at_call 42;exact c2 _ _) | (go_at_call 43;exact cA _ _)));apply hK;clear hK K)))
  refine WQ.nil ?_;intro w2 hw2;have HB2:Hid (Below w.heap.size w w2):=(HT1.out.call (zaB hw2)).bel;clear hw2;go_wp2;go_ret;exact wldP rfl (Stair.pass HOK.out (Stair.fall HNF.out)) HB2.out
set_option maxRecDepth 20000 in
theorem zhO (d:WorldD) (cs:List Value) (hi:Nat) (w:World) (h:zan.rd w hi d cs) (hhi:hi≤w.heap.size) (hnm:∀ t,t<d.tapes.1→∀ i,i<(d.tapes.2 t).recs.1→((d.tapes.2 t).recs.2 i).name.size≤1048576) (hok':zah d.shape) (hsel:zcz d) :
 Calls Tryz.prog 16 #[.agg cs.toArray] w (zc0 d w):=by
 obtain ⟨ao1,cap1,ao2,cap2,ao3,cap3,rfl,g1,g2,g3,-⟩:=za4 h;have HRD:=hid h;obtain ⟨v2,e2,⟨h2,hcp2⟩,_⟩:=g2
 cases e2
 have H2:=hid h2;have HCP:=hid hcp2;have hm2:=h2.mx;obtain ⟨_,_,e3,hm3,hc3⟩:=g3
 cases e3
 unfold maxLen at hm2 hm3;have HC3:=hid hc3;have HNM:=hid hnm;clear h h2 hcp2 hc3 g1 hnm;have T0:=zaE w (rwW d ao1 cap1 ao2 cap2 ao3 cap3).toArray 38;have CSh:=fun w'=>zbt d.shape w';unfold zae at CSh
 go_enter Tryz.func16,Tryz.ntmps16
 go_wp2_with fail
 refine (CSh _).mono ?_;rintro e w1 ⟨x,rfl,hx,b1⟩;have T1:One w w1 (rwW d ao1 cap1 ao2 cap2 ao3 cap3).toArray 38:=T0.call b1;have HT1:=hid T1;clear b1 T0 CSh;have x1_0:w1.cell? ⟨w.heap.size,0,none⟩=some (.int .i64 (d.shape 0)):=T1.b1.cell 0;have kx1_0:=cell_regrown x1_0;have x1_1:w1.cell? ⟨w.heap.size,1,none⟩=some (.int .i64 (d.shape 1)):=T1.b1.cell 1;have kx1_1:=cell_regrown x1_1;have x1_2:w1.cell? ⟨w.heap.size,2,none⟩=some (.int .i64 (d.shape 2)):=T1.b1.cell 2;have kx1_2:=cell_regrown x1_2;have x1_3:w1.cell? ⟨w.heap.size,3,none⟩=some (.int .i64 (d.shape 3)):=T1.b1.cell 3;have kx1_3:=cell_regrown x1_3;have x1_4:w1.cell? ⟨w.heap.size,4,none⟩=some (.int .i64 (d.shape 4)):=T1.b1.cell 4;have kx1_4:=cell_regrown x1_4;have x1_5:w1.cell? ⟨w.heap.size,5,none⟩=some (.int .i64 (d.shape 5)):=T1.b1.cell 5;have kx1_5:=cell_regrown x1_5;have x1_6:w1.cell? ⟨w.heap.size,6,none⟩=some (.int .i64 (d.shape 6)):=T1.b1.cell 6;have kx1_6:=cell_regrown x1_6;have x1_7:w1.cell? ⟨w.heap.size,7,none⟩=some (.int .i64 (d.shape 7)):=T1.b1.cell 7;have kx1_7:=cell_regrown x1_7;have x1_8:w1.cell? ⟨w.heap.size,8,none⟩=some (.int .i64 (d.shape 8)):=T1.b1.cell 8;have kx1_8:=cell_regrown x1_8;have x1_9:w1.cell? ⟨w.heap.size,9,none⟩=some (.slice ao1 d.groups.1 cap1):=T1.b1.cell 9;have kx1_9:=cell_regrown x1_9;have x1_10:w1.cell? ⟨w.heap.size,10,none⟩=some (.slice ao2 d.on.1 cap2):=T1.b1.cell 10;have kx1_10:=cell_regrown x1_10;have x1_11:w1.cell? ⟨w.heap.size,11,none⟩=some (.slice ao3 d.tapes.1 cap3):=T1.b1.cell 11;have kx1_11:=cell_regrown x1_11;have x1_12:w1.cell? ⟨w.heap.size,12,none⟩=some (.int .i64 d.writes):=T1.b1.cell 12;have kx1_12:=cell_regrown x1_12;have x1_13:w1.cell? ⟨w.heap.size,13,none⟩=some (.int .i64 d.stop):=T1.b1.cell 13;have kx1_13:=cell_regrown x1_13;have x1_14:w1.cell? ⟨w.heap.size,14,none⟩=some (.bool d.down):=T1.b1.cell 14;have kx1_14:=cell_regrown x1_14;clear T1
 rcases hx with ⟨rfl,hno⟩ | ⟨rfl,hok⟩
 ·go_wp2
  go_ret;exact wldP rfl (Stair.fall hno) HT1.out.bel
 have HOK:=hid hok
 have hsb:1≤d.shape 0∧d.shape 0≤4∧0≤d.shape 1∧d.shape 1≤2:=by
  obtain ⟨h1,_⟩:=hok;unfold Shp3 at h1;omega
 clear hok;obtain ⟨t1,h1⟩:=exB (zcP d);obtain ⟨t2,h2⟩:=exB (zbZ d.on.1 d.on.2 (d.shape 0+d.shape 1-1));obtain ⟨b3',h3⟩:∃ b,decide (d.shape 5<(d.on.1:Int))=b:=⟨_,rfl⟩;obtain ⟨g',h4⟩:∃ b,decide (0<d.on.1)=b:=⟨_,rfl⟩;obtain ⟨b5',h5⟩:∃ b,((d.tapes.1:Int) != 2)=b:=⟨_,rfl⟩;have c1:=zaG (W:=w1) (fun w' hw'=>zbb (zcJ d HOK.out _ hi w' (zan.rd_below (zan.rd_below HRD.out HT1.out.bel hhi) hw' (Nat.le_trans hhi HT1.out.bel.size)) (Nat.le_trans hhi (Nat.le_trans HT1.out.bel.size hw'.size))) h1);have c2:=zaG (W:=w1) (fun w' hw'=>zbb (zce _ d.on.1 d.on.2 hi (d.shape 0+d.shape 1-1) w' ((H2.out.below HT1.out.bel hhi).below hw' (Nat.le_trans hhi HT1.out.bel.size)) HCP.out (Nat.le_trans hhi (Nat.le_trans HT1.out.bel.size hw'.size))) h2);have cA:=zaG (W:=w1) (fun w' _=>zbI d.shape HOK.out w');unfold zae at cA
 have wsA:IntKind.i64.wrap (d.shape 0+d.shape 1-1)=d.shape 0+d.shape 1-1:=by rw [IntKind.wrap_i64];omega
 have h4':decide (0<(d.on.1:Int))=g':=by rw [← h4];simp
 obtain ⟨dn,hdn⟩:∃ x,x=d.down:=⟨_,rfl⟩
 have HE:Hid (zcz d↔(t1=true∧t2=true∧b3'=false∧(dn=true→g'=false)∧b5'=false)):=by
  show zcz d↔_
  have e3:(decide (d.shape 5<(d.on.1:Int))=false)↔(d.on.1:Int)≤d.shape 5:=by simp
  have e4:(decide (0<d.on.1)=false)↔d.on.1=0:=by simp
  have e5:(((d.tapes.1:Int) != 2)=false)↔d.tapes.1=2:=by simp;omega
  rw [h1,h2,← h3,← h4,← h5,hdn,e3,e4,e5];unfold zcz OnP
  constructor
  ·rintro ⟨a,⟨b,c,e⟩,f⟩
   exact ⟨a,b,c,e,f⟩
  ·rintro ⟨a,b,c,e,f⟩
   exact ⟨a,⟨b,c,e⟩,f⟩
 have hst:(t1=true∧t2=true∧b3'=false∧dn=true∧g'=false∧b5'=false)∨(t1=true∧t2=true∧b3'=false∧dn=false∧b5'=false):=by
  obtain ⟨a1,a2,a3,a4,a5⟩:=HE.out.1 hsel
  cases dn with
  | true=>exact .inl ⟨a1,a2,a3,rfl,a4 rfl,a5⟩
  | false=>exact .inr ⟨a1,a2,a3,rfl,a5⟩
 have HFM:=hid hsel;have htp:d.tapes.1=2:=hsel.2.2;have HTP:=hid htp;rw [← hdn] at x1_14 kx1_14 c1;clear h1 h2 hsel hok' htp HE
 go_upto_region 4 with fail
 go_cut [51] (fun v wx=>v=.bool false∧Below w1.heap.size w1 wx)
 case first=>
  clear hdn
  rcases hst with ⟨rfl,rfl,rfl,rfl,rfl,rfl⟩ | ⟨rfl,rfl,rfl,rfl,rfl⟩
  all_goals
   refine WQ.region (by kernel_rfl) (by kernel_rfl) ?_
   repeat (first | (apply WQ.free;(case hw=>rfl);intro K hK;go_simp;first | (apply hK;clear hK K) | (apply Exists.intro;apply And.intro;(case left=>intro p;(first | (go_at_call 41;exact c1 _ _) | (go_at_call 42;exact c2 _ _) | (go_at_call 43;exact cA _ _)));apply hK;clear hK K)) | (apply WQ.skip;(case hw=>rfl);intro K hK;go_simp;apply hK;clear hK K) | (apply WQ.want;(case hw=>rfl);intro K hK;go_simp;first | (apply hK;clear hK K) | (apply Exists.intro;apply And.intro;(case left=>intro p;(first | (go_at_call 41;exact c1 _ _) | (go_at_call 42;exact c2 _ _) | (go_at_call 43;exact cA _ _)));apply hK;clear hK K)))
   refine WQ.nil ?_;intro w2 hw2;have HB2:=hid (zaB hw2);clear hw2;go_wp2
   go_meet
   exact ⟨rfl,HB2.out⟩
 case rest=>
  obtain ⟨rfl,b2⟩:=hcut;obtain ⟨w2,rfl⟩:∃ x,x=wc:=⟨_,rfl⟩;have T2:One w w2 (rwW d ao1 cap1 ao2 cap2 ao3 cap3).toArray 38:=HT1.out.call b2
  rw [hdn] at *
  clear x1_0 kx1_0 x1_1 kx1_1 x1_2 kx1_2 x1_3 kx1_3 x1_4 kx1_4 x1_5 kx1_5 x1_6 kx1_6 x1_7 kx1_7 x1_8 kx1_8 x1_9 kx1_9 x1_10 kx1_10 x1_11 kx1_11 x1_12 kx1_12 x1_13 kx1_13 x1_14 kx1_14 c1 c2 cA hst h3 h4 h4' h5 b2 HT1 wsA hdn;obtain ⟨b3,off3,he3,hb3,hel3⟩:=HC3.out (by have:=HTP.out;omega);subst he3;have HT2:=hid T2;have HEL:=hid hel3;obtain ⟨ce0,hr0,hce0⟩:=zau (t:=0) hel3 T2.bel hhi hb3 (show 0<d.tapes.1 by have:=HTP.out;omega);obtain ⟨ce1,hr1,hce1⟩:=zau (t:=0) hel3 T2.bel hhi hb3 (show 1<d.tapes.1 by have:=HTP.out;omega);obtain ⟨ap0,cp0,rfl,gt0⟩:=zbs hr0;obtain ⟨ap1,cp1,rfl,gt1⟩:=zbs hr1
  have hl0:(d.tapes.2 0).recs.1≤maxLen:=by obtain ⟨_,_,_,h,_⟩:=gt0;exact h
  have hl1:(d.tapes.2 1).recs.1≤maxLen:=by obtain ⟨_,_,_,h,_⟩:=gt1;exact h
  unfold maxLen at hl0 hl1
  have q0:w2.cell? ⟨b3,off3+1,none⟩=some (.slice ap0 (d.tapes.2 0).recs.1 cp0):=by
   have:=hce0 1 (by decide)
   simpa using this
  have q1:w2.cell? ⟨b3,off3+2+1,none⟩=some (.slice ap1 (d.tapes.2 1).recs.1 cp1):=hce1 1 (by decide);have q1':w2.cell? ⟨b3,off3+3,none⟩=some (.slice ap1 (d.tapes.2 1).recs.1 cp1):=hce1 1 (by decide);have x2_11:w2.cell? ⟨w.heap.size,11,none⟩=some (.slice (some ⟨b3,off3,none⟩) d.tapes.1 cap3):=T2.b1.cell 11;obtain ⟨f0,k0⟩:∃ b,decide (200<(d.tapes.2 0).recs.1)=b:=⟨_,rfl⟩;obtain ⟨f1,k1⟩:∃ b,decide (200<(d.tapes.2 1).recs.1)=b:=⟨_,rfl⟩
  have k0':decide (200<((d.tapes.2 0).recs.1:Int))=f0:=by rw [← k0];congr 1;apply propext;omega
  have k1':decide (200<((d.tapes.2 1).recs.1:Int))=f1:=by rw [← k1];congr 1;apply propext;omega
  clear hce0 hce1 hr0 hr1 gt0 gt1 hel3 T2
  have hge:2≤d.tapes.1:=by have:=HTP.out;omega
  have hle:d.tapes.1≤2:=by have:=HTP.out;omega
  have HF0:Hid (f0=false→(d.tapes.2 0).recs.1≤200):=fun e=>by rw [← k0] at e;simpa using e
  have HF1:Hid (f1=false→(d.tapes.2 1).recs.1≤200):=fun e=>by rw [← k1] at e;simpa using e
  have HG0:Hid (f0=true→¬ (d.tapes.2 0).recs.1≤200):=fun e=>by rw [← k0] at e;simpa using e
  have HG1:Hid (f1=true→¬ (d.tapes.2 1).recs.1≤200):=fun e=>by rw [← k1] at e;simpa using e
  cases f0 with
  | true=>
   go_wp2;go_ret;exact wldP rfl (Stair.pass HOK.out (Stair.pass HFM.out (Stair.fall (fun h=>HG0.out (by simp) (h 0 (by omega)))))) HT2.out.bel
  | false=>
  cases f1 with
  | true=>
   go_wp2;go_ret;exact wldP rfl (Stair.pass HOK.out (Stair.pass HFM.out (Stair.fall (fun h=>HG1.out (by simp) (h 1 (by omega)))))) HT2.out.bel
  | false=>
  have HFW:Hid (FewP d):=fun t ht=>by
   by_cases c:t=0
   ·subst c;exact HF0.out (by simp)
   ·obtain rfl:t=1:=by omega
    exact HF1.out (by simp)
  go_wp2;clear k0 k1 k0' k1' HF0 HF1 HG0 HG1 q0 q1 q1' x2_11 hl0 hl1
  go_loopw [4] (fun v wr=>∃ t:Nat,t≤d.tapes.1∧v=.int .i64 t∧(∀ u,u<t→∀ k,k<(d.tapes.2 u).recs.1→RecAns d.shape ((d.tapes.2 u).recs.2 k) 0)∧One w wr (rwW d ao1 cap1 ao2 cap2 (some ⟨b3,off3,none⟩) cap3).toArray 38) (fun v _=>d.tapes.1-(intOf v).toNat)
  case atStart=>exact ⟨0,Nat.zero_le _,rfl,fun i hi=>by omega,HT2.out⟩
  case round=>
   clear HT2;obtain ⟨t,ht,rfl,hal,T3⟩:=hrel;obtain ⟨wo,rfl⟩:∃ x,x=wr:=⟨_,rfl⟩;have HAL:=hid hal;have HT3:=hid T3;clear hal
   by_cases hlt:t<d.tapes.1
   ·have zo:w.heap.size<wo.heap.size:=T3.b1.lt
    have hd2:decide ((t:Int)<2)=true:=decide_eq_true (by omega);clear T3;go_wp2
    go_loopw [5] (fun v wx=>∃ i:Nat,i≤(d.tapes.2 t).recs.1∧v=.int .i64 i∧(∀ k,k<i→RecAns d.shape ((d.tapes.2 t).recs.2 k) 0)∧One w wx (rwW d ao1 cap1 ao2 cap2 (some ⟨b3,off3,none⟩) cap3).toArray 38) (fun v _=>(d.tapes.2 t).recs.1-(intOf v).toNat)
    case atStart=>exact ⟨0,Nat.zero_le _,rfl,fun i hi=>by omega,HT3.out⟩
    case round=>
     clear HT3;obtain ⟨i,hi',rfl,hal2,T4⟩:=hrel;obtain ⟨wx,rfl⟩:∃ x,x=wr:=⟨_,rfl⟩;have HAL2:=hid hal2;have HT4:=hid T4;have zx:w.heap.size<wx.heap.size:=T4.b1.lt;clear hal2;obtain ⟨ct,hrt,hct⟩:=zau (t:=0) HEL.out T4.bel hhi hb3 hlt;obtain ⟨ap,cp,rfl,gt⟩:=zbs hrt;have c1:wx.cell? ⟨b3,off3+t*2+1,none⟩=some (.slice ap (d.tapes.2 t).recs.1 cp):=hct 1 (by decide);obtain ⟨_,_,et,hmt,hct'⟩:=gt
     cases et
     unfold maxLen at hmt;have HCT:=hid hct';have x5_11:wx.cell? ⟨w.heap.size,11,none⟩=some (.slice (some ⟨b3,off3,none⟩) d.tapes.1 cap3):=T4.b1.cell 11;clear hct hrt hct'
     by_cases hli:i<(d.tapes.2 t).recs.1
     ·obtain ⟨b6,off6,he6,hb6,hel6⟩:=HCT.out (by omega)
      subst he6;obtain ⟨cr,hrr,hcr⟩:=hel6 i hli;obtain ⟨ro6,rc6,ro7,rc7,ro8,rc8,rfl,-⟩:=zaw hrr;have r0:wx.cell? ⟨b6,off6+i*9,none⟩=some (.int .i64 ((d.tapes.2 t).recs.2 i).kind):=hcr 0 (by decide);have kr0:=cell_regrown r0;have r1:wx.cell? ⟨b6,off6+i*9+1,none⟩=some (.int .i64 ((d.tapes.2 t).recs.2 i).seq):=hcr 1 (by decide);have kr1:=cell_regrown r1;have r2:wx.cell? ⟨b6,off6+i*9+2,none⟩=some (.string ((d.tapes.2 t).recs.2 i).name):=hcr 2 (by decide);have kr2:=cell_regrown r2;have r3:wx.cell? ⟨b6,off6+i*9+3,none⟩=some (.int .i64 ((d.tapes.2 t).recs.2 i).length):=hcr 3 (by decide);have kr3:=cell_regrown r3;have r4:wx.cell? ⟨b6,off6+i*9+4,none⟩=some (.int .i64 ((d.tapes.2 t).recs.2 i).group):=hcr 4 (by decide);have kr4:=cell_regrown r4;have r5:wx.cell? ⟨b6,off6+i*9+5,none⟩=some (.int .i64 ((d.tapes.2 t).recs.2 i).row):=hcr 5 (by decide);have kr5:=cell_regrown r5;have r6:wx.cell? ⟨b6,off6+i*9+6,none⟩=some (.slice ro6 ((d.tapes.2 t).recs.2 i).rows.1 rc6):=hcr 6 (by decide);have kr6:=cell_regrown r6;have r7:wx.cell? ⟨b6,off6+i*9+7,none⟩=some (.slice ro7 ((d.tapes.2 t).recs.2 i).data.1 rc7):=hcr 7 (by decide);have kr7:=cell_regrown r7;have r8:wx.cell? ⟨b6,off6+i*9+8,none⟩=some (.slice ro8 ((d.tapes.2 t).recs.2 i).delta.1 rc8):=hcr 8 (by decide);have kr8:=cell_regrown r8;have HRR:=hid hrr;obtain ⟨X,hX⟩:∃ X,RecAns d.shape ((d.tapes.2 t).recs.2 i) X:=zdg (K:=isZ) ⟨0,rfl⟩ _;have HX:=hid hX;have kx5_11:=cell_regrown x5_11;have kc1:=cell_regrown c1;have x5_0:wx.cell? ⟨w.heap.size,0,none⟩=some (.int .i64 (d.shape 0)):=T4.b1.cell 0;have kx5_0:=cell_regrown x5_0;have x5_1:wx.cell? ⟨w.heap.size,1,none⟩=some (.int .i64 (d.shape 1)):=T4.b1.cell 1;have kx5_1:=cell_regrown x5_1;have x5_2:wx.cell? ⟨w.heap.size,2,none⟩=some (.int .i64 (d.shape 2)):=T4.b1.cell 2;have kx5_2:=cell_regrown x5_2;have x5_3:wx.cell? ⟨w.heap.size,3,none⟩=some (.int .i64 (d.shape 3)):=T4.b1.cell 3;have kx5_3:=cell_regrown x5_3;have x5_4:wx.cell? ⟨w.heap.size,4,none⟩=some (.int .i64 (d.shape 4)):=T4.b1.cell 4;have kx5_4:=cell_regrown x5_4;have x5_5:wx.cell? ⟨w.heap.size,5,none⟩=some (.int .i64 (d.shape 5)):=T4.b1.cell 5;have kx5_5:=cell_regrown x5_5;have x5_6:wx.cell? ⟨w.heap.size,6,none⟩=some (.int .i64 (d.shape 6)):=T4.b1.cell 6;have kx5_6:=cell_regrown x5_6;have x5_7:wx.cell? ⟨w.heap.size,7,none⟩=some (.int .i64 (d.shape 7)):=T4.b1.cell 7
      have kx5_7:=cell_regrown x5_7;have x5_8:wx.cell? ⟨w.heap.size,8,none⟩=some (.int .i64 (d.shape 8)):=T4.b1.cell 8;have kx5_8:=cell_regrown x5_8;have CR:=zaG (W:=wx) (fun w' hw'=>zjE HX.out (zhv d.shape ((d.tapes.2 t).recs.2 i) _ hi w' (zab.rd_below HRR.out hw' (by omega)) (Nat.le_trans (by omega) hw'.size) (HNM.out t hlt i hli)));unfold zae at CR;clear hel6 hcr hrr T4 hX
      go_upto_region 14 with fail
      refine WQ.region (by kernel_rfl) (by kernel_rfl) ?_
      repeat (first | (apply WQ.skip;(case hw=>rfl);intro K hK;go_simp;apply hK;clear hK K) | (apply WQ.want;(case hw=>rfl);intro K hK;go_simp;first | (apply hK;clear hK K) | (apply Exists.intro;apply And.intro;(case left=>intro p;(first | (go_at_call 44;exact CR _ _)));apply hK;clear hK K)))
      refine WQ.nil ?_;intro w6 hw6;have HT6:=hid (HT4.out.call (zaB hw6));clear hw6 CR r0 kr0 x5_0 kx5_0 r1 kr1 x5_1 kx5_1 r2 kr2 x5_2 kx5_2 r3 kr3 x5_3 kx5_3 r4 kr4 x5_4 kx5_4 r5 kr5 x5_5 kx5_5 r6 kr6 x5_6 kx5_6 r7 kr7 x5_7 kx5_7 r8 kr8 x5_8 kx5_8 x5_11 kx5_11 c1 kc1
      by_cases hx0:X=0
      ·subst hx0
       go_wp2
       go_roundw
       case rel=>exact ⟨i+1,by omega,by go_num,fun k hk=>by
        by_cases c:k=i
        ·subst c;exact HX.out
        ·exact HAL2.out k (by omega),HT6.out⟩
       case measure=>simp [intOf];omega
      ·have hne:(X != 0)=true:=by simp [hx0]
       go_wp2;go_ret;exact wldP rfl (Stair.pass HOK.out (Stair.pass HFM.out (Stair.pass HFW.out (Stair.last (.inl ⟨hx0,.inr ⟨hx0,t,i,hlt,hli,HX.out,HAL2.out,HAL.out⟩⟩))))) HT6.out.bel
     ·obtain rfl:i=(d.tapes.2 t).recs.1:=by omega
      clear T4;go_wp2
      go_roundw
      case rel=>exact ⟨t+1,by omega,by go_num,fun u hu=>by
       by_cases c:u=t
       ·subst c;exact HAL2.out
       ·exact HAL.out u (by omega),HT4.out⟩
      case measure=>simp [intOf];omega
   ·obtain rfl:t=d.tapes.1:=by omega
    clear T3;have HRA:Hid (RecsAns d.shape d.tapes.1 d.tapes.2 0):=.inl ⟨rfl,HAL.out⟩;go_wp2
    go_loop [7] (fun v=>∃ t:Nat,t≤d.tapes.1∧v=.int .i64 t∧∀ u,u<t→(d.tapes.2 u).wiped=true→(d.tapes.2 u).recs.1=0) (fun v=>d.tapes.1-(intOf v).toNat)
    case atStart=>exact ⟨0,Nat.zero_le _,rfl,fun i hi=>by omega⟩
    case round=>
     obtain ⟨t,ht,rfl,hal⟩:=hrel;have HAL3:=hid hal;clear hal
     by_cases hlt:t<d.tapes.1
     ·obtain ⟨ct,hrt,hct⟩:=zau (t:=0) HEL.out HT3.out.bel hhi hb3 hlt
      obtain ⟨ap,cp,rfl,gt⟩:=zbs hrt;have c0:wo.cell? ⟨b3,off3+t*2,none⟩=some (.bool (d.tapes.2 t).wiped):=hct 0 (by decide);have c1:wo.cell? ⟨b3,off3+t*2+1,none⟩=some (.slice ap (d.tapes.2 t).recs.1 cp):=hct 1 (by decide);have x5_11:wo.cell? ⟨w.heap.size,11,none⟩=some (.slice (some ⟨b3,off3,none⟩) d.tapes.1 cap3):=HT3.out.b1.cell 11;obtain ⟨u,hu⟩:∃ u,u=(d.tapes.2 t).wiped:=⟨_,rfl⟩;obtain ⟨g,hg⟩:∃ b,decide (0<(d.tapes.2 t).recs.1)=b:=⟨_,rfl⟩
      have hg':decide (0<((d.tapes.2 t).recs.1:Int))=g:=by rw [← hg];simp
      rw [← hu] at c0
      have HE3:Hid (((d.tapes.2 t).wiped=true→(d.tapes.2 t).recs.1=0)↔(u=true→g=false)):=by
       show _↔_
       rw [← hu,← hg]
       simp
      clear hct hrt gt hu
      cases u with
      | false=>
       go_wp2
       go_round
       case rel=>exact ⟨t+1,by omega,by go_num,fun u hu=>by
        by_cases c:u=t
        ·subst c;exact HE3.out.2 (by simp)
        ·exact HAL3.out u (by omega)⟩
       case measure=>simp [intOf];omega
      | true=>
       cases g with
       | false=>
        go_wp2
        go_round
        case rel=>exact ⟨t+1,by omega,by go_num,fun u hu=>by
         by_cases c:u=t
         ·subst c;exact HE3.out.2 (by simp)
         ·exact HAL3.out u (by omega)⟩
        case measure=>simp [intOf];omega
       | true=>
        go_wp2;go_ret;exact wldP rfl (Stair.pass HOK.out (Stair.pass HFM.out (Stair.pass HFW.out (Stair.last (.inr ⟨HRA.out,Stair.fall (fun h=>by have:=HE3.out.1 (h t hlt);simp at this)⟩))))) HT3.out.bel
     ·obtain rfl:t=d.tapes.1:=by omega
      have HCL:=hid HAL3.out;have x5_12:wo.cell? ⟨w.heap.size,12,none⟩=some (.int .i64 d.writes):=HT3.out.b1.cell 12;have x5_13:wo.cell? ⟨w.heap.size,13,none⟩=some (.int .i64 d.stop):=HT3.out.b1.cell 13;obtain ⟨t1,h1⟩:=exB (InP d.writes 0 1000000000);obtain ⟨t2,h2⟩:=exB (InP d.stop (-1) 1000000000);have C1:=fun w'=>zcs (w:=w') h1;have C2:=fun w'=>zcs (w:=w') h2
      have HE4:Hid (zgv d↔(t1=true∧t2=true)):=by
       show zgv d↔_
       rw [h1,h2];exact Iff.rfl
      clear h1 h2
      go_wp2_with fail
      refine (C1 _).mono ?_;rintro e w' ⟨rfl,hw'⟩;obtain rfl:=hw'.symm;clear C1
      cases t1 with
      | false=>
       go_wp2;go_ret;exact wldP rfl (Stair.pass HOK.out (Stair.pass HFM.out (Stair.pass HFW.out (Stair.last (.inr ⟨HRA.out,Stair.pass HCL.out (Stair.fall (fun h=>by have:=HE4.out.1 h;simp at this))⟩))))) HT3.out.bel
      | true=>
       go_wp2_with fail
       refine (C2 _).mono ?_;rintro e w' ⟨rfl,hw'⟩;obtain rfl:=hw'.symm;clear C2
       cases t2 with
       | false=>
        go_wp2;go_ret;exact wldP rfl (Stair.pass HOK.out (Stair.pass HFM.out (Stair.pass HFW.out (Stair.last (.inr ⟨HRA.out,Stair.pass HCL.out (Stair.fall (fun h=>by have:=HE4.out.1 h;simp at this))⟩))))) HT3.out.bel
       | true=>
        go_wp2;go_ret;exact wldP rfl (Stair.pass HOK.out (Stair.pass HFM.out (Stair.pass HFW.out (Stair.last (.inr ⟨HRA.out,Stair.pass HCL.out (Stair.pass (HE4.out.2 (by simp)) (Stair.last rfl))⟩))))) HT3.out.bel
set_option maxRecDepth 20000 in
theorem zhP (d:WorldD) (cs:List Value) (hi:Nat) (w:World) (h:zan.rd w hi d cs) (hhi:hi≤w.heap.size) (hnm:∀ t,t<d.tapes.1→∀ i,i<(d.tapes.2 t).recs.1→((d.tapes.2 t).recs.2 i).name.size≤1048576) (hok':¬ zah d.shape) :
 Calls Tryz.prog 16 #[.agg cs.toArray] w (zc0 d w):=by
 obtain ⟨ao1,cap1,ao2,cap2,ao3,cap3,rfl,g1,g2,g3,-⟩:=za4 h;have HRD:=hid h;obtain ⟨v2,e2,⟨h2,hcp2⟩,_⟩:=g2
 cases e2
 have H2:=hid h2;have HCP:=hid hcp2;have hm2:=h2.mx;obtain ⟨_,_,e3,hm3,hc3⟩:=g3
 cases e3
 unfold maxLen at hm2 hm3;have HC3:=hid hc3;have HNM:=hid hnm;clear h h2 hcp2 hc3 g1 hnm;have T0:=zaE w (rwW d ao1 cap1 ao2 cap2 ao3 cap3).toArray 38;have CSh:=fun w'=>zbt d.shape w';unfold zae at CSh
 go_enter Tryz.func16,Tryz.ntmps16
 go_wp2_with fail
 refine (CSh _).mono ?_;rintro e w1 ⟨x,rfl,hx,b1⟩;have T1:One w w1 (rwW d ao1 cap1 ao2 cap2 ao3 cap3).toArray 38:=T0.call b1;have HT1:=hid T1;clear b1 T0 CSh;have x1_0:w1.cell? ⟨w.heap.size,0,none⟩=some (.int .i64 (d.shape 0)):=T1.b1.cell 0;have kx1_0:=cell_regrown x1_0;have x1_1:w1.cell? ⟨w.heap.size,1,none⟩=some (.int .i64 (d.shape 1)):=T1.b1.cell 1;have kx1_1:=cell_regrown x1_1;have x1_2:w1.cell? ⟨w.heap.size,2,none⟩=some (.int .i64 (d.shape 2)):=T1.b1.cell 2;have kx1_2:=cell_regrown x1_2;have x1_3:w1.cell? ⟨w.heap.size,3,none⟩=some (.int .i64 (d.shape 3)):=T1.b1.cell 3;have kx1_3:=cell_regrown x1_3;have x1_4:w1.cell? ⟨w.heap.size,4,none⟩=some (.int .i64 (d.shape 4)):=T1.b1.cell 4;have kx1_4:=cell_regrown x1_4;have x1_5:w1.cell? ⟨w.heap.size,5,none⟩=some (.int .i64 (d.shape 5)):=T1.b1.cell 5;have kx1_5:=cell_regrown x1_5;have x1_6:w1.cell? ⟨w.heap.size,6,none⟩=some (.int .i64 (d.shape 6)):=T1.b1.cell 6;have kx1_6:=cell_regrown x1_6;have x1_7:w1.cell? ⟨w.heap.size,7,none⟩=some (.int .i64 (d.shape 7)):=T1.b1.cell 7;have kx1_7:=cell_regrown x1_7;have x1_8:w1.cell? ⟨w.heap.size,8,none⟩=some (.int .i64 (d.shape 8)):=T1.b1.cell 8;have kx1_8:=cell_regrown x1_8;have x1_9:w1.cell? ⟨w.heap.size,9,none⟩=some (.slice ao1 d.groups.1 cap1):=T1.b1.cell 9;have kx1_9:=cell_regrown x1_9;have x1_10:w1.cell? ⟨w.heap.size,10,none⟩=some (.slice ao2 d.on.1 cap2):=T1.b1.cell 10;have kx1_10:=cell_regrown x1_10;have x1_11:w1.cell? ⟨w.heap.size,11,none⟩=some (.slice ao3 d.tapes.1 cap3):=T1.b1.cell 11;have kx1_11:=cell_regrown x1_11;have x1_12:w1.cell? ⟨w.heap.size,12,none⟩=some (.int .i64 d.writes):=T1.b1.cell 12;have kx1_12:=cell_regrown x1_12;have x1_13:w1.cell? ⟨w.heap.size,13,none⟩=some (.int .i64 d.stop):=T1.b1.cell 13;have kx1_13:=cell_regrown x1_13;have x1_14:w1.cell? ⟨w.heap.size,14,none⟩=some (.bool d.down):=T1.b1.cell 14;have kx1_14:=cell_regrown x1_14;clear T1
 rcases hx with ⟨rfl,hno⟩ | ⟨rfl,hok⟩
 ·go_wp2
  go_ret;exact wldP rfl (Stair.fall hno) HT1.out.bel
 exact absurd hok hok'
theorem zfZ (d:WorldD) (cs:List Value) (hi:Nat) (w:World) (h:zan.rd w hi d cs) (hhi:hi≤w.heap.size) (hnm:∀ t,t<d.tapes.1→∀ i,i<(d.tapes.2 t).recs.1→((d.tapes.2 t).recs.2 i).name.size≤1048576) :
 Calls Tryz.prog 16 #[.agg cs.toArray] w (zc0 d w):=by
 by_cases h0:zah d.shape
 ·by_cases h1:zcP d∧zbZ d.on.1 d.on.2 (d.shape 0+d.shape 1-1)
  ·by_cases h2:(d.on.1:Int)≤d.shape 5∧(d.down=true→d.on.1=0)
   ·by_cases h3:d.tapes.1=2
    ·exact zhO d cs hi w h hhi hnm h0 ⟨h1.1,⟨h1.2,h2.1,h2.2⟩,h3⟩
    ·exact zhN d cs hi w h hhi hnm h0 ⟨h1.1,h1.2,h2,h3⟩
   ·exact zhM d cs hi w h hhi hnm h0 ⟨h1.1,h1.2,h2⟩
  ·exact zhL d cs hi w h hhi hnm h0 h1
 ·exact zhP d cs hi w h hhi hnm h0
set_option maxRecDepth 20000 in
theorem zgR:ToV zab zaH 46:=fun cs d hi w r hhi hn=>by
 obtain ⟨ao6,cap6,ao7,cap7,ao8,cap8,rfl,h6,h7,h8,k0,k1,k2,k3,k4,k5⟩:=zaw r;clear r;unfold zaH lenD at hn;have Q0:=hid k0;have Q1:=hid k1;have Q3:=hid k3;have Q4:=hid k4;have Q5:=hid k5;have Q2:=hid k2;clear k0 k1 k2 k3 k4 k5;have T0:=zaD w (rwR d ao6 cap6 ao7 cap7 ao8 cap8).toArray #[.int .i64 0,.int .i64 0,.string ⟨#[]⟩,.int .i64 0,.int .i64 0,.int .i64 0,.slice none 0 0,.slice none 0 0,.slice none 0 0] 83 83
 go_enter Tryz.func46,Tryz.ntmps46
 go_upto_region 1 with fail
 obtain ⟨W0,hW0⟩:∃ x,x=(w.alloc (.cells (rwR d ao6 cap6 ao7 cap7 ao8 cap8).toArray 83)).alloc (.cells #[.int .i64 0,.int .i64 0,.string ⟨#[]⟩,.int .i64 0,.int .i64 0,.int .i64 0,.slice none 0 0,.slice none 0 0,.slice none 0 0] 83):=⟨_,rfl⟩
 have z0:W0.heap.size=w.heap.size+1+1:=by rw [hW0];simp
 rw [← hW0] at T0 ⊢;clear hW0;have bA0:=bAl W0 (.cells #[] 2);have TA0:=T0.call bA0;obtain ⟨v',w1,hrun,o0,b0⟩:=zgF 25 (W0.alloc (.cells #[] 2)) W0.heap.size (zhz W0 2) (zaj.rd_below h6 TA0.bel hhi) (show d.rows.1≤10000000 by omega);obtain ⟨bo6,bcap6,hv⟩:=zdc o0;obtain rfl:=zba hv;clear hv;have zw0:W0.heap.size+1≤w1.heap.size:=Nat.le_trans (by simp) b0.size;have TB0:Two w w1 (rwR d ao6 cap6 ao7 cap7 ao8 cap8).toArray #[.int .i64 0,.int .i64 0,.string ⟨#[]⟩,.int .i64 0,.int .i64 0,.int .i64 0,.slice none 0 0,.slice none 0 0,.slice none 0 0] 83 83:=⟨TA0.b1.below b0 (by omega),TA0.b2.below b0 (by omega),TA0.bel.trans (b0.mono (by omega))⟩;have xa:(W0.alloc (.cells #[] 2)).cell? ⟨w.heap.size,6,none⟩=some (.slice ao6 d.rows.1 cap6):=TA0.b1.cell 6;have xb:w1.cell? ⟨w.heap.size,6,none⟩=some (.slice ao6 d.rows.1 cap6):=TB0.b1.cell 6;have xf:w1.frozen? ⟨w.heap.size,6,none⟩=false:=TB0.b1.frozen 6;have T1:Two w (w1.setCell ⟨w.heap.size,6,none⟩ (.slice bo6 d.rows.1 bcap6)) (rwR d bo6 bcap6 ao7 cap7 ao8 cap8).toArray #[.int .i64 0,.int .i64 0,.string ⟨#[]⟩,.int .i64 0,.int .i64 0,.int .i64 0,.slice none 0 0,.slice none 0 0,.slice none 0 0] 83 83:=⟨TB0.b1.stL [.slice bo6 d.rows.1 bcap6] 6,TB0.b2.seto _ _ (by omega),TB0.bel.setCell (Nat.le_refl _) _⟩;have O6x:=o0.stN w.heap.size 6 [.slice bo6 d.rows.1 bcap6] (by omega)
 have e0:(w1.setCell ⟨w.heap.size,6,none⟩ (.slice bo6 d.rows.1 bcap6)).heap.size=w1.heap.size:=by simp
 clear TA0 TB0 o0 b0 bA0 T0
 go_upto_region 2 with (at_builtin;refine zcC rfl (.tmp 3) (.tmp 5) rfl ?_ ?_ hrun ?_;(simp [Act.eval]);(simp [Act.eval]))
 obtain ⟨W1,hW1⟩:∃ x,x=w1.setCell ⟨w.heap.size,6,none⟩ (.slice bo6 d.rows.1 bcap6):=⟨_,rfl⟩
 have O6:Hid (OwnT zaj W1 W0.heap.size w1.heap.size d.rows [.slice bo6 d.rows.1 bcap6]):=by rw [hW1];exact O6x
 rw [← hW1] at T1 e0 ⊢;clear hW1 hrun xa xb xf O6x;have bA1:=bAl W1 (.cells #[] 5);have TA1:=T1.call bA1;obtain ⟨v',w2,hrun,o1,b1⟩:=zd8 81 (W1.alloc (.cells #[] 5)) W1.heap.size (zhz W1 5) (zac.rd_below h7 TA1.bel hhi) (show d.data.1≤10000000 by omega);obtain ⟨bo7,bcap7,hv⟩:=zby o1;obtain rfl:=zba hv;clear hv;have zw1:W1.heap.size+1≤w2.heap.size:=Nat.le_trans (by simp) b1.size;have TB1:Two w w2 (rwR d bo6 bcap6 ao7 cap7 ao8 cap8).toArray #[.int .i64 0,.int .i64 0,.string ⟨#[]⟩,.int .i64 0,.int .i64 0,.int .i64 0,.slice none 0 0,.slice none 0 0,.slice none 0 0] 83 83:=⟨TA1.b1.below b1 (by omega),TA1.b2.below b1 (by omega),TA1.bel.trans (b1.mono (by omega))⟩;have xa:(W1.alloc (.cells #[] 5)).cell? ⟨w.heap.size,7,none⟩=some (.slice ao7 d.data.1 cap7):=TA1.b1.cell 7;have xb:w2.cell? ⟨w.heap.size,7,none⟩=some (.slice ao7 d.data.1 cap7):=TB1.b1.cell 7;have xf:w2.frozen? ⟨w.heap.size,7,none⟩=false:=TB1.b1.frozen 7;have T2:Two w (w2.setCell ⟨w.heap.size,7,none⟩ (.slice bo7 d.data.1 bcap7)) (rwR d bo6 bcap6 bo7 bcap7 ao8 cap8).toArray #[.int .i64 0,.int .i64 0,.string ⟨#[]⟩,.int .i64 0,.int .i64 0,.int .i64 0,.slice none 0 0,.slice none 0 0,.slice none 0 0] 83 83:=⟨TB1.b1.stL [.slice bo7 d.data.1 bcap7] 7,TB1.b2.seto _ _ (by omega),TB1.bel.setCell (Nat.le_refl _) _⟩;have O6x:=((O6.out.call bA1).below b1 (by omega)).stN w.heap.size 7 [.slice bo7 d.data.1 bcap7] (by omega);have O7x:=o1.stN w.heap.size 7 [.slice bo7 d.data.1 bcap7] (by omega)
 have e1:(w2.setCell ⟨w.heap.size,7,none⟩ (.slice bo7 d.data.1 bcap7)).heap.size=w2.heap.size:=by simp
 clear TA1 TB1 o1 b1 bA1 T1 O6
 go_upto_region 3 with (at_builtin;refine zcC rfl (.tmp 8) (.tmp 10) rfl ?_ ?_ hrun ?_;(simp [Act.eval]);(simp [Act.eval]))
 obtain ⟨W2,hW2⟩:∃ x,x=w2.setCell ⟨w.heap.size,7,none⟩ (.slice bo7 d.data.1 bcap7):=⟨_,rfl⟩
 have O6:Hid (OwnT zaj W2 W0.heap.size w1.heap.size d.rows [.slice bo6 d.rows.1 bcap6]):=by rw [hW2];exact O6x
 have O7:Hid (OwnT zac W2 W1.heap.size w2.heap.size d.data [.slice bo7 d.data.1 bcap7]):=by rw [hW2];exact O7x
 rw [← hW2] at T2 e1 ⊢;clear hW2 hrun xa xb xf O6x O7x;have bA2:=bAl W2 (.cells #[] 5);have TA2:=T2.call bA2;obtain ⟨v',w3,hrun,o2,b2⟩:=zd8 81 (W2.alloc (.cells #[] 5)) W2.heap.size (zhz W2 5) (zac.rd_below h8 TA2.bel hhi) (show d.delta.1≤10000000 by omega);obtain ⟨bo8,bcap8,hv⟩:=zby o2;obtain rfl:=zba hv;clear hv;have zw2:W2.heap.size+1≤w3.heap.size:=Nat.le_trans (by simp) b2.size;have TB2:Two w w3 (rwR d bo6 bcap6 bo7 bcap7 ao8 cap8).toArray #[.int .i64 0,.int .i64 0,.string ⟨#[]⟩,.int .i64 0,.int .i64 0,.int .i64 0,.slice none 0 0,.slice none 0 0,.slice none 0 0] 83 83:=⟨TA2.b1.below b2 (by omega),TA2.b2.below b2 (by omega),TA2.bel.trans (b2.mono (by omega))⟩;have xa:(W2.alloc (.cells #[] 5)).cell? ⟨w.heap.size,8,none⟩=some (.slice ao8 d.delta.1 cap8):=TA2.b1.cell 8;have xb:w3.cell? ⟨w.heap.size,8,none⟩=some (.slice ao8 d.delta.1 cap8):=TB2.b1.cell 8;have xf:w3.frozen? ⟨w.heap.size,8,none⟩=false:=TB2.b1.frozen 8;have T3:Two w (w3.setCell ⟨w.heap.size,8,none⟩ (.slice bo8 d.delta.1 bcap8)) (rwR d bo6 bcap6 bo7 bcap7 bo8 bcap8).toArray #[.int .i64 0,.int .i64 0,.string ⟨#[]⟩,.int .i64 0,.int .i64 0,.int .i64 0,.slice none 0 0,.slice none 0 0,.slice none 0 0] 83 83:=⟨TB2.b1.stL [.slice bo8 d.delta.1 bcap8] 8,TB2.b2.seto _ _ (by omega),TB2.bel.setCell (Nat.le_refl _) _⟩;have O6x:=((O6.out.call bA2).below b2 (by omega)).stN w.heap.size 8 [.slice bo8 d.delta.1 bcap8] (by omega);have O7x:=((O7.out.call bA2).below b2 (by omega)).stN w.heap.size 8 [.slice bo8 d.delta.1 bcap8] (by omega);have O8x:=o2.stN w.heap.size 8 [.slice bo8 d.delta.1 bcap8] (by omega)
 have e2:(w3.setCell ⟨w.heap.size,8,none⟩ (.slice bo8 d.delta.1 bcap8)).heap.size=w3.heap.size:=by simp
 clear TA2 TB2 o2 b2 bA2 T2 O6 O7
 go_upto_region 4 with (at_builtin;refine zcC rfl (.tmp 13) (.tmp 15) rfl ?_ ?_ hrun ?_;(simp [Act.eval]);(simp [Act.eval]))
 obtain ⟨W3,hW3⟩:∃ x,x=w3.setCell ⟨w.heap.size,8,none⟩ (.slice bo8 d.delta.1 bcap8):=⟨_,rfl⟩
 have O6:Hid (OwnT zaj W3 W0.heap.size w1.heap.size d.rows [.slice bo6 d.rows.1 bcap6]):=by rw [hW3];exact O6x
 have O7:Hid (OwnT zac W3 W1.heap.size w2.heap.size d.data [.slice bo7 d.data.1 bcap7]):=by rw [hW3];exact O7x
 have O8:Hid (OwnT zac W3 W2.heap.size w3.heap.size d.delta [.slice bo8 d.delta.1 bcap8]):=by rw [hW3];exact O8x
 rw [← hW3] at T3 e2 ⊢;clear hW3 hrun xa xb xf O6x O7x O8x;have y_0:W3.cell? ⟨w.heap.size,0,none⟩=some (.int .i64 d.kind):=T3.b1.cell 0;have y_1:W3.cell? ⟨w.heap.size,1,none⟩=some (.int .i64 d.seq):=T3.b1.cell 1;have y_2:W3.cell? ⟨w.heap.size,2,none⟩=some (.string d.name):=T3.b1.cell 2;have y_3:W3.cell? ⟨w.heap.size,3,none⟩=some (.int .i64 d.length):=T3.b1.cell 3;have y_4:W3.cell? ⟨w.heap.size,4,none⟩=some (.int .i64 d.group):=T3.b1.cell 4;have y_5:W3.cell? ⟨w.heap.size,5,none⟩=some (.int .i64 d.row):=T3.b1.cell 5;have y_6:W3.cell? ⟨w.heap.size,6,none⟩=some (.slice bo6 d.rows.1 bcap6):=T3.b1.cell 6;have y_7:W3.cell? ⟨w.heap.size,7,none⟩=some (.slice bo7 d.data.1 bcap7):=T3.b1.cell 7;have y_8:W3.cell? ⟨w.heap.size,8,none⟩=some (.slice bo8 d.delta.1 bcap8):=T3.b1.cell 8;have r_0:W3.cell? ⟨w.heap.size+1,0,none⟩=some (.int .i64 0):=T3.b2.cell 0;have rf_0:W3.frozen? ⟨w.heap.size+1,0,none⟩=false:=T3.b2.frozen 0;have r_1:W3.cell? ⟨w.heap.size+1,1,none⟩=some (.int .i64 0):=T3.b2.cell 1;have rf_1:W3.frozen? ⟨w.heap.size+1,1,none⟩=false:=T3.b2.frozen 1;have r_2:W3.cell? ⟨w.heap.size+1,2,none⟩=some (.string ⟨#[]⟩):=T3.b2.cell 2;have rf_2:W3.frozen? ⟨w.heap.size+1,2,none⟩=false:=T3.b2.frozen 2;have r_3:W3.cell? ⟨w.heap.size+1,3,none⟩=some (.int .i64 0):=T3.b2.cell 3;have rf_3:W3.frozen? ⟨w.heap.size+1,3,none⟩=false:=T3.b2.frozen 3;have r_4:W3.cell? ⟨w.heap.size+1,4,none⟩=some (.int .i64 0):=T3.b2.cell 4;have rf_4:W3.frozen? ⟨w.heap.size+1,4,none⟩=false:=T3.b2.frozen 4;have r_5:W3.cell? ⟨w.heap.size+1,5,none⟩=some (.int .i64 0):=T3.b2.cell 5;have rf_5:W3.frozen? ⟨w.heap.size+1,5,none⟩=false:=T3.b2.frozen 5;have r_6:W3.cell? ⟨w.heap.size+1,6,none⟩=some (.slice none 0 0):=T3.b2.cell 6;have rf_6:W3.frozen? ⟨w.heap.size+1,6,none⟩=false:=T3.b2.frozen 6;have r_7:W3.cell? ⟨w.heap.size+1,7,none⟩=some (.slice none 0 0):=T3.b2.cell 7;have rf_7:W3.frozen? ⟨w.heap.size+1,7,none⟩=false:=T3.b2.frozen 7;have r_8:W3.cell? ⟨w.heap.size+1,8,none⟩=some (.slice none 0 0):=T3.b2.cell 8;have rf_8:W3.frozen? ⟨w.heap.size+1,8,none⟩=false:=T3.b2.frozen 8;have HB:=hid T3.bel;clear T3;go_wp2;refine bodyPost_ret (v:=.agg (rwR d bo6 bcap6 bo7 bcap7 bo8 bcap8).toArray) (by simp [results,Tryz.results46,go_sem,r_0,y_0,r_1,y_1,r_2,y_2,r_3,y_3,r_4,y_4,r_5,y_5,r_6,y_6,r_7,y_7,r_8,y_8]) rfl ?_;have F:OwnT zab W3 (w.heap.size+1+1) W3.heap.size d ([.int .i64 d.kind]++([.int .i64 d.seq]++([.string d.name]++([.int .i64 d.length]++([.int .i64 d.group]++([.int .i64 d.row]++([.slice bo6 d.rows.1 bcap6]++([.slice bo7 d.data.1 bcap7]++[.slice bo8 d.delta.1 bcap8])))))))):=OwnT.conv (OwnT.pre (A:=layI) (a:=d.kind) (c:=[.int .i64 d.kind]) ⟨rfl,Q0.out,rfl⟩ (OwnT.pre (A:=layI) (a:=d.seq) (c:=[.int .i64 d.seq]) ⟨rfl,Q1.out,rfl⟩ (OwnT.pre (A:=layS) (a:=d.name) (c:=[.string d.name]) ⟨rfl,Q2.out,rfl⟩ (OwnT.pre (A:=layI) (a:=d.length) (c:=[.int .i64 d.length]) ⟨rfl,Q3.out,rfl⟩ (OwnT.pre (A:=layI) (a:=d.group) (c:=[.int .i64 d.group]) ⟨rfl,Q4.out,rfl⟩ (OwnT.pre (A:=layI) (a:=d.row) (c:=[.int .i64 d.row]) ⟨rfl,Q5.out,rfl⟩ (OwnT.two (O6.out.weaken (by omega) (Nat.le_refl _)) (OwnT.two O7.out (O8.out.weaken (Nat.le_refl _) (by omega)) (by omega) (by omega) (by omega)) (by omega) (by omega) (by omega))))))))
 refine ⟨(rwR d bo6 bcap6 bo7 bcap7 bo8 bcap8),rfl,?_,?_⟩
 ·exact OwnT.finb F (b:=w.heap.size+1) (by omega) (by omega) 0 (rwR d bo6 bcap6 bo7 bcap7 bo8 bcap8) _ rfl
 ·exact HB.out.trans (zbr (by omega) (rwR d bo6 bcap6 bo7 bcap7 bo8 bcap8) 0)
set_option maxRecDepth 20000 in
theorem zf0:ToS (zab.slice 83) (szSl zaH) 17:=fun v d hi w h hhi hn=>by
 obtain ⟨n,x⟩:=d;obtain ⟨ao,cap,hv,hm,hc⟩:=h
 cases hv
 have hn1:=zev hn;have hn2:∀ i,i<n→zaH (x i)≤1048576:=fun i hi=>zcx hn hi
 simp only at hn1 hm hc
 have HC:=hid hc;clear hn hc
 go_enter Tryz.func17,Tryz.ntmps17
 go_wp2
 go_loopw [3,4] (fun v i wr=>∃ (k:Nat) (ao':Option Addr) (cap':Nat),k≤n∧i=.int .i64 k∧v=.slice ao' k cap'∧Gat zab 83 wr w.heap.size (.slice ao' k cap') k x∧Below w.heap.size w wr) (fun _ i _=>n-(intOf i).toNat)
 case atStart=>exact ⟨0,_,_,Nat.zero_le _,rfl,rfl,zkx _ _,(Below.refl _ _).alloc (Nat.le_refl _) _⟩
 case round=>
  obtain ⟨k,ao',cap',hk,rfl,rfl,G,hb⟩:=hrel;obtain ⟨wo,rfl⟩:∃ y,y=wr:=⟨_,rfl⟩;have HG:=hid G;have HB:=hid hb;have zo:w.heap.size≤wo.heap.size:=hb.size;clear G
  by_cases hlt:k<n
  ·obtain ⟨b,off,he,hblt,hel⟩:=HC.out (by omega)
   subst he;obtain ⟨ck,hrk,hcell⟩:=zau (t:=0) hel hb hhi hblt hlt;obtain ⟨ao6,cap6,ao7,cap7,ao8,cap8,rfl,-⟩:=zaw hrk;have c0:wo.cell? ⟨b,off+k*9,none⟩=some (.int .i64 (x k).kind):=hcell 0 (by decide);have c1:wo.cell? ⟨b,off+k*9+1,none⟩=some (.int .i64 (x k).seq):=hcell 1 (by decide);have c2:wo.cell? ⟨b,off+k*9+2,none⟩=some (.string (x k).name):=hcell 2 (by decide);have c3:wo.cell? ⟨b,off+k*9+3,none⟩=some (.int .i64 (x k).length):=hcell 3 (by decide);have c4:wo.cell? ⟨b,off+k*9+4,none⟩=some (.int .i64 (x k).group):=hcell 4 (by decide);have c5:wo.cell? ⟨b,off+k*9+5,none⟩=some (.int .i64 (x k).row):=hcell 5 (by decide);have c6:wo.cell? ⟨b,off+k*9+6,none⟩=some (.slice ao6 (x k).rows.1 cap6):=hcell 6 (by decide);have c7:wo.cell? ⟨b,off+k*9+7,none⟩=some (.slice ao7 (x k).data.1 cap7):=hcell 7 (by decide);have c8:wo.cell? ⟨b,off+k*9+8,none⟩=some (.slice ao8 (x k).delta.1 cap8):=hcell 8 (by decide);have C:=zgR _ (x k) hi wo hrk (Nat.le_trans hhi zo) (hn2 k hlt);clear hel hcell hrk hb
   go_wp2_with fail
   refine C.mono ?_;rintro e w2 ⟨cs',rfl,o2,b2⟩;obtain ⟨bo6,bc6,bo7,bc7,bo8,bc8,rfl⟩:=zez o2;clear C c0 c1 c2 c3 c4 c5 c6 c7 c8
   go_wp2_with (at_builtin;refine ziI zcu rfl (.tmp 12) (.tmp 18) rfl (lo:=w.heap.size) (n:=k) (v:=.slice ao' k cap') (x:=x) ?_ HG.out b2 o2 ?_ w2.heap.size 1 ?_ (fun j _=>zjG w2 _ _ j) (by omega) (by omega) ?_;(simp [Act.eval]);(exact (Below.refl _ _).alloc (Nat.le_refl _) _);(simp [Act.eval]);intro v4 w4 g4 b4;obtain ⟨ao4,cap4,rfl⟩:=g4.form)
   go_roundw
   case rel=>exact ⟨k+1,ao4,cap4,by omega,by go_num,rfl,g4.congr (fun i _=>by rw [zem]),HB.out.trans b4⟩
   case measure=>simp [intOf];omega
  ·obtain rfl:k=n:=by omega
   clear hb;go_wp2;go_ret;exact ⟨_,rfl,HG.out.own,HB.out⟩
theorem zcK {w:World} (b:Nat) (cs:Array Value):ChgL [b] w (w.setRow b cs):=
 ⟨rfl,rfl,rfl,by simp,fun k _ hn=>setRow_other w b k cs (fun h=>hn (by simp [h]))⟩
theorem zcf {ops:Array Oper} {rest:List Oper} {o:Oper} {a:Act} {w:World} {Q:Exit→Act→World→Prop} (T:TypeId) (x y:Operand) (ho:o.op=.store T x y) (hgd:o.guard=none) (b:Nat) (hx:a.eval x=.pointer (some ⟨b,0,none⟩)) {cs old:List Value} (hy:a.eval y=.agg cs.toArray) (hB:Box w b old.toArray T) {n:Nat} (hi:(Tryz.prog.info? T).map (·.size)=some n) (hl:cs.length=n) (hol:old.length=n) (h1:∀ v,v∈cs→v.oneCell'=true)
 (h:∀ w',Box w' b cs.toArray T→ChgL [b] w w'→w'.heap.size=w.heap.size→wpList Tryz.prog ops Q rest (a.put o.dst undef) w'):wpList Tryz.prog ops Q (o::rest) a w:=by
 refine wpList_store_row hgd T x y ho b cs.toArray hx hy T old.toArray hB (by rw [hi];simp [hl]) (by simp [hl,hol]) (by simp;exact h1) ?_;exact h _ (setRow_heap w b _ cs.toArray T (0,0) hB) (zcK b _) (by simp)
theorem zd1 {fn:Func} {R:Ending→World→Prop} {a:Act} {w:World} {p:Tmp} {ty:TypeId} (h:fn.results=#[.cell p ty]) {b:Nat} {cs:List Value} (hp:a.tmps.getD p undef=.pointer (some ⟨b,0,none⟩)) (hB:Box w b cs.toArray ty) {fs:Array Field} (hu:Tryz.prog.underlying ty=some (.struct fs)) {n:Nat} (hi:(Tryz.prog.info? ty).map (·.size)=some n) (hl:cs.length=n) (hd:a.defers=[]) (hR:R (.returned (.agg cs.toArray)) w):bodyPost Tryz.prog fn R .ret a w:=
 bodyPost_ret (results_cell_row h a.tmps w b ty cs.toArray (0,0) (.struct fs) hp hB hu rfl (by rw [hi];simp [hl])) hd hR
theorem OwnT.chgk {α:Type} {A:Lay α} {w w':World} {lo hi:Nat} {a:α} {cs:List Value} {K:List Nat} (h:OwnT A w lo hi a cs) (hc:ChgL K w w') (hK:∀ b,b∈K→b<lo∨hi≤b):OwnT A w' lo hi a cs:=by
 obtain ⟨M,h1,h2,h3⟩:=h;exact ⟨M,A.own_kept h1 (fun b hb=>hc.block b (A.own_lt h1 b hb) (fun hh=>by have:=hK b hh;have:=h3 b hb;omega)),h2,h3⟩
theorem zj4 {w:World} {hi:Nat} {d:WorldD} {cs:List Value} (h:zan.rd w hi d cs):∃ v0 v1 v2 v3 v4 v5 v6 v7 v8 vp0 vl0 vq0 vp1 vl1 vq1 vp2 vl2 vq2 v9 v10 vb,cs=[.int .i64 v0,.int .i64 v1,.int .i64 v2,.int .i64 v3,.int .i64 v4,.int .i64 v5,.int .i64 v6,.int .i64 v7,.int .i64 v8,.slice vp0 vl0 vq0,.slice vp1 vl1 vq1,.slice vp2 vl2 vq2,.int .i64 v9,.int .i64 v10,.bool vb]:=by
 obtain ⟨p1,pc1,p2,pc2,p3,pc3,rfl,-⟩:=za4 h;exact ⟨_,_,_,_,_,_,_,_,_,_,_,_,_,_,_,_,_,_,_,_,_,rfl⟩
theorem zkO {w:World} {lo hi:Nat} {d:WorldD} {cs:List Value} (h:OwnT zan w lo hi d cs):∃ v0 v1 v2 v3 v4 v5 v6 v7 v8 vp0 vl0 vq0 vp1 vl1 vq1 vp2 vl2 vq2 v9 v10 vb,cs=[.int .i64 v0,.int .i64 v1,.int .i64 v2,.int .i64 v3,.int .i64 v4,.int .i64 v5,.int .i64 v6,.int .i64 v7,.int .i64 v8,.slice vp0 vl0 vq0,.slice vp1 vl1 vq1,.slice vp2 vl2 vq2,.int .i64 v9,.int .i64 v10,.bool vb]:=zj4 h.rd
theorem zeo {K:Int→Prop}:∀ (l:List (Prop×Int)) {x:Int},Stair l K x→K x∨∃ p,p∈l∧x=p.2
 | [],x,h=>.inl h
 | (p,c)::l,x,h=>by
  rcases h with ⟨_,h⟩ | ⟨_,h⟩
  ·exact .inr ⟨(p,c),List.mem_cons_self ..,h⟩
  ·rcases zeo l h with k | ⟨q,hq,k⟩
   ·exact .inl k
   ·exact .inr ⟨q,List.mem_cons_of_mem _ hq,k⟩
theorem zj5 {s:Nat→Int} {r:RecD} {x:Int} (h:RecAns s r x):0≤x∧x≤9:=by
 rcases zeo _ h with k | ⟨p,hp,rfl⟩
 ·rw [show x=0 from k];decide
 ·simp at hp
  rcases hp with rfl | rfl | rfl | rfl | rfl | rfl<;>constructor<;>simp
theorem zdO {d:WorldD} {x:Int} (h:WldAns d x):(-9223372036854775808≤x∧x≤9223372036854775807):=by
 have key:0≤x∧x≤9:=by
  rcases zeo _ h with k | ⟨p,hp,rfl⟩
  ·rcases k with ⟨_,k⟩ | ⟨_,k⟩
   ·rcases k with ⟨rfl,_⟩ | ⟨_,t,i,_,_,hr,_⟩
    ·decide
    ·exact zj5 hr
   ·rcases zeo _ k with k | ⟨p,hp,rfl⟩
    ·rw [show x=0 from k];decide
    ·simp at hp
     rcases hp with rfl | rfl<;>constructor<;>simp
  ·simp at hp
   rcases hp with rfl | rfl | rfl<;>constructor<;>simp
 omega
theorem zee {d:WorldD} (h:zbn d≤1048576):∀ t,t<d.tapes.1→∀ i,i<(d.tapes.2 t).recs.1→((d.tapes.2 t).recs.2 i).name.size≤1048576:=fun t ht i hi=>by
 have h1:szSl zaS d.tapes≤1048576:=by unfold zbn at h;omega
 have h2:szSl zaH (d.tapes.2 t).recs≤1048576:=zcx h1 ht;have h3:zaH ((d.tapes.2 t).recs.2 i)≤1048576:=zcx h2 hi;unfold zaH at h3;omega
set_option maxRecDepth 20000 in
theorem zgS (v:Value) (p:Nat×(Nat→RecD)) (hi:Nat) (w:World) (h:(zab.slice 83).rd w hi p [v]) (hhi:hi≤w.heap.size) (hs:(szSl zaH) p≤1048576) :
 Calls Tryz.prog 25 #[v] w (fun e w'=>∃ cs,e=.returned (.agg cs.toArray)∧OwnT zaz w' w.heap.size w'.heap.size ⟨0,p⟩ cs∧Below w.heap.size w w'):=by
 have B0:=zaE w #[.int .i64 0,.slice none 0 0] 32;have CS:=zhD v p hi (w.alloc (.cells #[.int .i64 0,.slice none 0 0] 32)) (Lay.rd_below _ h B0.bel hhi) (Nat.le_trans hhi B0.bel.size) hs;clear h
 go_enter Tryz.func25,Tryz.ntmps25
 go_wp2_with fail
 refine CS.mono ?_;rintro e w1 ⟨v1,rfl,O1,b1⟩;have HO:=hid (B0.call b1);obtain ⟨a3,c3,rfl⟩:=zgL O1;have z0:w.heap.size<(w.alloc (.cells #[.int .i64 0,.slice none 0 0] 32)).heap.size:=B0.b1.lt;have O2:=zfO (n:=p.1) (f:=p.2) O1 0 (by decide);have HO2:=hid O2;clear O1 O2 b1 CS B0
 go_wp2_with (refine zcf 32 _ _ rfl rfl (w.heap.size) rfl (cs:=[.int .i64 0,.slice a3 p.1 c3]) rfl (HO.out.b1) zcn rfl rfl (HO2.out.one) ?_;intro w9 X9 C9 z9)
 refine zd1 Tryz.results25 rfl X9 Tryz.underlying32 zcn rfl rfl ?_;have zz:=C9.size;exact ⟨_,rfl,(HO2.out.chgk C9 (fun b hb=>by simp at hb;omega)).weaken (by omega) zz,HO.out.bel.trans (C9.bel (fun b hb=>by simp at hb;omega) HO.out.bel.size)⟩
end Go.Proofs.YtajibninhikdgaaGreat
namespace Go.Proofs.YtajibninhikdgaaGreat
open Go.RowKit F256
open Go.Maps (Keyed)
theorem Ldg.keepAll {w w':World} {lo B:Nat} {s:Nat→Int} {m k:Nat} {x:Nat→RecD} {ce:Nat→List Value} {v:Value} {b1 b2 b3 b4 b5:Nat} (h:Ldg w lo B s m k x ce v b1 b2 b3 b4 b5) (hb:∀ b,b<w.heap.size→w'.heap[b]?=w.heap[b]?):Ldg w' lo B s m k x ce v b1 b2 b3 b4 b5:=by
 refine ⟨(hb B h.box.lt).trans h.box,⟨h.row.1,?_⟩,h.m1.block (hb _ h.m1.lt),h.m2.block (hb _ h.m2.lt),h.m3.block (hb _ h.m3.lt),h.m4.block (hb _ h.m4.lt),h.m5.block (hb _ h.m5.lt),h.nd,h.low,h.apart⟩
 rcases h.row.2 with hn | ⟨g,cap,cur,rfl,q1,q2,q3⟩
 ·exact .inl hn
 ·exact .inr ⟨g,cap,cur,rfl,q1,(hb g (Array.getElem?_eq_some_iff.1 q2).1).trans q2,q3⟩
theorem zi7 (kd:Int) (r:RecD) (ao6 ao7 ao8:Option Addr) (cap6 cap7 cap8:Nat) (w:World) :
 Calls Tryz.prog 65 #[.agg #[.int .i64 kd,.int .i64 r.seq,.string r.name,.int .i64 r.length,.int .i64 r.group,.int .i64 r.row,.slice ao6 r.rows.1 cap6,.slice ao7 r.data.1 cap7,.slice ao8 r.delta.1 cap8]] w fun e w'=>e=.returned (entV kd [.int .i64 kd,.int .i64 r.seq,.string r.name,.int .i64 r.length,.int .i64 r.group,.int .i64 r.row,.slice ao6 r.rows.1 cap6,.slice ao7 r.data.1 cap7,.slice ao8 r.delta.1 cap8])∧Below w.heap.size w w':=by
 have T0:=(zaE w #[.int .i64 kd,.int .i64 r.seq,.string r.name,.int .i64 r.length,.int .i64 r.group,.int .i64 r.row,.slice ao6 r.rows.1 cap6,.slice ao7 r.data.1 cap7,.slice ao8 r.delta.1 cap8] 83).bel;unfold entV entT
 by_cases h1:kd=1
 ·subst h1
  go_enter Tryz.func65,Tryz.ntmps65
  go_wp2;go_ret;exact ⟨rfl,T0⟩
 ·rw [if_neg h1]
  by_cases h2:kd=2
  ·subst h2
   go_enter Tryz.func65,Tryz.ntmps65
   go_wp2;go_ret;exact ⟨rfl,T0⟩
  ·rw [if_neg h2]
   by_cases h3:kd=3
   ·subst h3
    go_enter Tryz.func65,Tryz.ntmps65
    go_wp2;go_ret;exact ⟨rfl,T0⟩
   ·rw [if_neg h3]
    go_enter Tryz.func65,Tryz.ntmps65
    go_wp2;go_ret;exact ⟨rfl,T0⟩
theorem zj6 {w w0:World} {lo B hi:Nat} {s:Nat→Int} {k:Nat} {x:Nat→RecD} {ce:Nat→List Value} {v:Value} {b1 b2 b3 b4 b5:Nat} (h:Ldg w lo B s k k x ce v b1 b2 b3 b4 b5) (hk:k≤1000000) (hlo:lo≤w.heap.size) (hr:zab.rd w0 hi (x k) (ce k)) (hkd:InP (x k).kind 1 4) :
 Calls Tryz.prog 64 #[.pointer (some ⟨B,0,none⟩),entV (x k).kind (ce k)] w fun e w'=>e=.returned (.tuple #[])∧(∃ v',Ldg w' lo B s (k+1) (k+1) x ce v' b1 b2 b3 b4 b5∧EntQ w w' v v' [B,b1,b2,b3,b4,b5])∧Below lo w w':=by
 obtain ⟨ao6,cap6,ao7,cap7,ao8,cap8,e,_,_,_,k0,k1,k2,k3,k4,k5⟩:=zaw hr;obtain ⟨q1,q2⟩:=hkd
 have hc:(x k).kind=1∨(x k).kind=2∨(x k).kind=3∨(x k).kind=4:=by omega
 rcases hc with c | c | c | c
 ·have:=ziL h hk hlo rfl e c k2 k1 k4 k5
  rw [show entV (x k).kind (ce k)=.iface 146 (.agg #[.int .i64 (x k).kind,.int .i64 (x k).seq,.string (x k).name,.int .i64 (x k).length,.int .i64 (x k).group,.int .i64 (x k).row,.slice ao6 (x k).rows.1 cap6,.slice ao7 (x k).data.1 cap7,.slice ao8 (x k).delta.1 cap8]) by unfold entV entT;rw [e];simp [c]];exact this
 ·have:=ziM h hk hlo rfl e c k2 k1 k4 k5
  rw [show entV (x k).kind (ce k)=.iface 147 (.agg #[.int .i64 (x k).kind,.int .i64 (x k).seq,.string (x k).name,.int .i64 (x k).length,.int .i64 (x k).group,.int .i64 (x k).row,.slice ao6 (x k).rows.1 cap6,.slice ao7 (x k).data.1 cap7,.slice ao8 (x k).delta.1 cap8]) by unfold entV entT;rw [e];simp [c]];exact this
 ·have:=ziN h hk hlo rfl e c k2 k1 k4 k5
  rw [show entV (x k).kind (ce k)=.iface 148 (.agg #[.int .i64 (x k).kind,.int .i64 (x k).seq,.string (x k).name,.int .i64 (x k).length,.int .i64 (x k).group,.int .i64 (x k).row,.slice ao6 (x k).rows.1 cap6,.slice ao7 (x k).data.1 cap7,.slice ao8 (x k).delta.1 cap8]) by unfold entV entT;rw [e];simp [c]];exact this
 ·have:=zhB h hk hlo rfl e c k2 k1 k4 k5
  rw [show entV (x k).kind (ce k)=.iface 151 (.agg #[.int .i64 (x k).kind,.int .i64 (x k).seq,.string (x k).name,.int .i64 (x k).length,.int .i64 (x k).group,.int .i64 (x k).row,.slice ao6 (x k).rows.1 cap6,.slice ao7 (x k).data.1 cap7,.slice ao8 (x k).delta.1 cap8]) by unfold entV entT;rw [e];simp [c]];exact this
theorem MapV.alloc {w:World} {k:TypeId} {b n:Nat} {f:Value→Option Value} (h:MapV w k b n f) (q:Obj):MapV (w.alloc q) k b n f:=h.block (Below.heap_alloc w q b h.lt)
theorem zeX (p:Nat→Prop) (key:Nat→Value):cntF p key 0=fun _=>none:=by
 funext y
 simp [cntF,cN]
theorem zj7 (u:World) (s:Nat→Int) (x:Nat→RecD) (ce:Nat→List Value) :
 Ldg ((((((u.alloc (.map #[] 0)).alloc (.map #[] 0)).alloc (.map #[] 0)).alloc (.map #[] 0)).alloc (.map #[] 0)).alloc (.cells #[.int .i64 (s 0),.int .i64 (s 1),.int .i64 (s 2),.int .i64 (s 3),.int .i64 (s 4),.int .i64 (s 5),.int .i64 (s 6),.int .i64 (s 7),.int .i64 (s 8),.slice none 0 0,.map (some u.heap.size),.map (some (u.heap.size+1)),.map (some (u.heap.size+1+1)),.map (some (u.heap.size+1+1+1)),.map (some (u.heap.size+1+1+1+1))] 103)) u.heap.size (u.heap.size+1+1+1+1+1) s 0 0 x ce (.slice none 0 0) (u.heap.size) (u.heap.size+1) (u.heap.size+1+1) (u.heap.size+1+1+1) (u.heap.size+1+1+1+1):=by
 have a1:(u.alloc (.map #[] 0)).heap.size=u.heap.size+1:=by simp
 have a2:((u.alloc (.map #[] 0)).alloc (.map #[] 0)).heap.size=u.heap.size+1+1:=by simp
 have a3:(((u.alloc (.map #[] 0)).alloc (.map #[] 0)).alloc (.map #[] 0)).heap.size=u.heap.size+1+1+1:=by simp
 have a4:((((u.alloc (.map #[] 0)).alloc (.map #[] 0)).alloc (.map #[] 0)).alloc (.map #[] 0)).heap.size=u.heap.size+1+1+1+1:=by simp
 have a5:(((((u.alloc (.map #[] 0)).alloc (.map #[] 0)).alloc (.map #[] 0)).alloc (.map #[] 0)).alloc (.map #[] 0)).heap.size=u.heap.size+1+1+1+1+1:=by simp
 have m1:=zct u 9;have m2:=zct (u.alloc (.map #[] 0)) 2;have m3:=zct ((u.alloc (.map #[] 0)).alloc (.map #[] 0)) 150;have m4:=zct (((u.alloc (.map #[] 0)).alloc (.map #[] 0)).alloc (.map #[] 0)) 2;have m5:=zct ((((u.alloc (.map #[] 0)).alloc (.map #[] 0)).alloc (.map #[] 0)).alloc (.map #[] 0)) 153;have X:=zao (((((u.alloc (.map #[] 0)).alloc (.map #[] 0)).alloc (.map #[] 0)).alloc (.map #[] 0)).alloc (.map #[] 0)) #[.int .i64 (s 0),.int .i64 (s 1),.int .i64 (s 2),.int .i64 (s 3),.int .i64 (s 4),.int .i64 (s 5),.int .i64 (s 6),.int .i64 (s 7),.int .i64 (s 8),.slice none 0 0,.map (some u.heap.size),.map (some (u.heap.size+1)),.map (some (u.heap.size+1+1)),.map (some (u.heap.size+1+1+1)),.map (some (u.heap.size+1+1+1+1))] 103;rw [a1] at m2;rw [a2] at m3;rw [a3] at m4;rw [a4] at m5;rw [a5] at X;refine ⟨X,World.ownsRow_nil _ _ _ _,(((((m1.alloc _).alloc _).alloc _).alloc _).alloc _),?_,?_,?_,(m5.alloc _),by simp<;>omega,by omega,fun g hg=>by cases hg⟩
 ·rw [show movF x 0=fun _=>none from zeX _ _]
  exact (((m2.alloc _).alloc _).alloc _).alloc _
 ·rw [show donF x 0=fun _=>none from zeX _ _]
  exact ((m3.alloc _).alloc _).alloc _
 ·rw [show endF x 0=fun _=>none from zeX _ _]
  exact (m4.alloc _).alloc _
theorem zhQ {d:WorldD} (hok:OkWorld d) {i:Nat} (hi:i<lenT d.tapes.2 2):InP (recT d.tapes.2 2 i).kind 1 4:=by
 have h2:d.tapes.1=2:=hok.form.2.2
 have key:∀ t j,t<2→j<(d.tapes.2 t).recs.1→InP ((d.tapes.2 t).recs.2 j).kind 1 4:=fun t j ht hj=>by
  have:=hok.recs t (by omega) j hj
  rcases this with ⟨_,h⟩ | ⟨_,h⟩
  ·omega
  rcases h with ⟨_,h⟩ | ⟨h,_⟩
  ·omega
  exact h
 have e1:lenT d.tapes.2 1=(d.tapes.2 0).recs.1:=by simp [lenT]
 have e2:lenT d.tapes.2 2=(d.tapes.2 0).recs.1+(d.tapes.2 1).recs.1:=by simp [lenT]
 rw [e2] at hi
 show InP (cat2 (recT d.tapes.2 1) (lenT d.tapes.2 1) (d.tapes.2 1).recs.2 i).kind 1 4
 unfold cat2
 split
 ·rename_i c
  rw [e1] at c
  show InP (cat2 (recT d.tapes.2 0) (lenT d.tapes.2 0) (d.tapes.2 0).recs.2 i).kind 1 4
  unfold cat2;rw [if_neg (by show ¬ i<0;omega)];exact key 0 (i-0) (by omega) (by omega)
 ·rename_i c
  rw [e1] at c ⊢;exact key 1 _ (by omega) (by omega)
def zlU (d:WorldD) (hi:Nat) (w:World) (e:Ending) (w':World):Prop:=
 ∃ B l ce v b1 b2 b3 b4 b5,e=.returned (.pointer (some ⟨B,0,none⟩))∧Cnt (recT d.tapes.2 2) (lenT d.tapes.2 2) l∧Ldg w' (w.heap.size+1) B d.shape l.length l.length (fun i=>recT d.tapes.2 2 (l.getD i 0)) ce v b1 b2 b3 b4 b5∧(∀ i,i<l.length→zab.rd w' hi (recT d.tapes.2 2 (l.getD i 0)) (ce i))∧Below w.heap.size w w'
set_option maxRecDepth 20000 in
theorem zf1 (d:WorldD) (cs:List Value) (hi:Nat) (w:World) (h:zan.rd w hi d cs) (hhi:hi≤w.heap.size) (hok:OkWorld d) :
 Calls Tryz.prog 26 #[.agg cs.toArray] w (zlU d hi w):=by
 have h':=h;obtain ⟨ao1,cap1,ao2,cap2,ao3,cap3,rfl,g1,g2,g3,k0,k4,k5⟩:=za4 h';have HG3:=hid g3;have HOK:=hid hok;clear h h' g1 g2 g3 k0 k4 k5 hok;have T0:=zaE w #[.int .i64 (d.shape 0),.int .i64 (d.shape 1),.int .i64 (d.shape 2),.int .i64 (d.shape 3),.int .i64 (d.shape 4),.int .i64 (d.shape 5),.int .i64 (d.shape 6),.int .i64 (d.shape 7),.int .i64 (d.shape 8),.slice ao1 d.groups.1 cap1,.slice ao2 d.on.1 cap2,.slice ao3 d.tapes.1 cap3,.int .i64 d.writes,.int .i64 d.stop,.bool d.down] 38;have hmm:=@run_makeMap Tryz.prog
 go_enter Tryz.func26,Tryz.ntmps26
 go_upto_region 2 with fail
 have L0:=zj7 (w.alloc (.cells #[.int .i64 (d.shape 0),.int .i64 (d.shape 1),.int .i64 (d.shape 2),.int .i64 (d.shape 3),.int .i64 (d.shape 4),.int .i64 (d.shape 5),.int .i64 (d.shape 6),.int .i64 (d.shape 7),.int .i64 (d.shape 8),.slice ao1 d.groups.1 cap1,.slice ao2 d.on.1 cap2,.slice ao3 d.tapes.1 cap3,.int .i64 d.writes,.int .i64 d.stop,.bool d.down] 38)) d.shape
 have zA:(w.alloc (.cells #[.int .i64 (d.shape 0),.int .i64 (d.shape 1),.int .i64 (d.shape 2),.int .i64 (d.shape 3),.int .i64 (d.shape 4),.int .i64 (d.shape 5),.int .i64 (d.shape 6),.int .i64 (d.shape 7),.int .i64 (d.shape 8),.slice ao1 d.groups.1 cap1,.slice ao2 d.on.1 cap2,.slice ao3 d.tapes.1 cap3,.int .i64 d.writes,.int .i64 d.stop,.bool d.down] 38)).heap.size=w.heap.size+1:=by simp
 rw [zA] at L0;have bW:Below w.heap.size w (((((((w.alloc (.cells #[.int .i64 (d.shape 0),.int .i64 (d.shape 1),.int .i64 (d.shape 2),.int .i64 (d.shape 3),.int .i64 (d.shape 4),.int .i64 (d.shape 5),.int .i64 (d.shape 6),.int .i64 (d.shape 7),.int .i64 (d.shape 8),.slice ao1 d.groups.1 cap1,.slice ao2 d.on.1 cap2,.slice ao3 d.tapes.1 cap3,.int .i64 d.writes,.int .i64 d.stop,.bool d.down] 38)).alloc (.map #[] 0)).alloc (.map #[] 0)).alloc (.map #[] 0)).alloc (.map #[] 0)).alloc (.map #[] 0)).alloc (.cells #[.int .i64 (d.shape 0),.int .i64 (d.shape 1),.int .i64 (d.shape 2),.int .i64 (d.shape 3),.int .i64 (d.shape 4),.int .i64 (d.shape 5),.int .i64 (d.shape 6),.int .i64 (d.shape 7),.int .i64 (d.shape 8),.slice none 0 0,.map (some (w.heap.size+1)),.map (some (w.heap.size+1+1)),.map (some (w.heap.size+1+1+1)),.map (some (w.heap.size+1+1+1+1)),.map (some (w.heap.size+1+1+1+1+1))] 103)):=((((((T0.bel.alloc (by simp) _).alloc (by simp<;>omega) _).alloc (by simp<;>omega) _).alloc (by simp<;>omega) _).alloc (by simp<;>omega) _).alloc (by simp<;>omega) _);have XW:Box (((((((w.alloc (.cells #[.int .i64 (d.shape 0),.int .i64 (d.shape 1),.int .i64 (d.shape 2),.int .i64 (d.shape 3),.int .i64 (d.shape 4),.int .i64 (d.shape 5),.int .i64 (d.shape 6),.int .i64 (d.shape 7),.int .i64 (d.shape 8),.slice ao1 d.groups.1 cap1,.slice ao2 d.on.1 cap2,.slice ao3 d.tapes.1 cap3,.int .i64 d.writes,.int .i64 d.stop,.bool d.down] 38)).alloc (.map #[] 0)).alloc (.map #[] 0)).alloc (.map #[] 0)).alloc (.map #[] 0)).alloc (.map #[] 0)).alloc (.cells #[.int .i64 (d.shape 0),.int .i64 (d.shape 1),.int .i64 (d.shape 2),.int .i64 (d.shape 3),.int .i64 (d.shape 4),.int .i64 (d.shape 5),.int .i64 (d.shape 6),.int .i64 (d.shape 7),.int .i64 (d.shape 8),.slice none 0 0,.map (some (w.heap.size+1)),.map (some (w.heap.size+1+1)),.map (some (w.heap.size+1+1+1)),.map (some (w.heap.size+1+1+1+1)),.map (some (w.heap.size+1+1+1+1+1))] 103)) w.heap.size #[.int .i64 (d.shape 0),.int .i64 (d.shape 1),.int .i64 (d.shape 2),.int .i64 (d.shape 3),.int .i64 (d.shape 4),.int .i64 (d.shape 5),.int .i64 (d.shape 6),.int .i64 (d.shape 7),.int .i64 (d.shape 8),.slice ao1 d.groups.1 cap1,.slice ao2 d.on.1 cap2,.slice ao3 d.tapes.1 cap3,.int .i64 d.writes,.int .i64 d.stop,.bool d.down] 38:=((((((T0.b1.allocd _).allocd _).allocd _).allocd _).allocd _).allocd _);obtain ⟨W1,hW1⟩:∃ y,y=(((((((w.alloc (.cells #[.int .i64 (d.shape 0),.int .i64 (d.shape 1),.int .i64 (d.shape 2),.int .i64 (d.shape 3),.int .i64 (d.shape 4),.int .i64 (d.shape 5),.int .i64 (d.shape 6),.int .i64 (d.shape 7),.int .i64 (d.shape 8),.slice ao1 d.groups.1 cap1,.slice ao2 d.on.1 cap2,.slice ao3 d.tapes.1 cap3,.int .i64 d.writes,.int .i64 d.stop,.bool d.down] 38)).alloc (.map #[] 0)).alloc (.map #[] 0)).alloc (.map #[] 0)).alloc (.map #[] 0)).alloc (.map #[] 0)).alloc (.cells #[.int .i64 (d.shape 0),.int .i64 (d.shape 1),.int .i64 (d.shape 2),.int .i64 (d.shape 3),.int .i64 (d.shape 4),.int .i64 (d.shape 5),.int .i64 (d.shape 6),.int .i64 (d.shape 7),.int .i64 (d.shape 8),.slice none 0 0,.map (some (w.heap.size+1)),.map (some (w.heap.size+1+1)),.map (some (w.heap.size+1+1+1)),.map (some (w.heap.size+1+1+1+1)),.map (some (w.heap.size+1+1+1+1+1))] 103)):=⟨_,rfl⟩
 rw [← hW1] at bW XW ⊢
 have HL0:Hid (∀ x ce,Ldg W1 (w.heap.size+1) (w.heap.size+1+1+1+1+1+1) d.shape 0 0 x ce (.slice none 0 0) (w.heap.size+1) (w.heap.size+1+1) (w.heap.size+1+1+1) (w.heap.size+1+1+1+1) (w.heap.size+1+1+1+1+1)):=fun x ce=>by rw [hW1];exact L0 x ce
 have z1:w.heap.size+7≤W1.heap.size:=by rw [hW1];simp
 clear hW1 L0 zA hmm;have h2:d.tapes.1=2:=HOK.out.form.2.2;have hn0:(d.tapes.2 0).recs.1≤400000:=Nat.le_trans (HOK.out.few 0 (by omega)) (by decide);have hn1:(d.tapes.2 1).recs.1≤400000:=Nat.le_trans (HOK.out.few 1 (by omega)) (by decide)
 have x11:W1.cell? ⟨w.heap.size,11,none⟩=some (.slice ao3 2 cap3):=by have:=XW.cell 11;rw [h2] at this;exact this
 have G3:(zam.slice 79).rd W1 hi (2,d.tapes.2) [.slice ao3 2 cap3]:=by
  have:=Lay.rd_below _ HG3.out bW hhi;rw [h2] at this;rw [show d.tapes=(2,d.tapes.2) from Prod.ext h2 rfl] at this;exact this
 have CC:=zfM d.tapes.2 (.slice ao3 2 cap3) hi W1 G3 (by have:=bW.size;omega) hn0 hn1;have HBW:=hid bW;clear G3 bW T0 XW
 go_wp2_with fail
 refine CC.mono ?_;rintro e w2 ⟨v2,l,ce,lo,rfl,hCt,hlo,V,b2⟩;have HCt:=hid hCt
 have hNl:l.length≤800000:=by
  have e2:lenT d.tapes.2 2=(d.tapes.2 0).recs.1+(d.tapes.2 1).recs.1:=by simp [lenT]
  have:=(hCt.sum (fun _=>0)).2;omega
 obtain ⟨x,hx⟩:∃ x:Nat→RecD,x=fun i=>recT d.tapes.2 2 (l.getD i 0):=⟨_,rfl⟩;have HX:=hid hx
 have HKD:Hid (∀ i,i<l.length→InP (x i).kind 1 4):=fun i hi'=>by
  rw [hx];exact zhQ HOK.out ((hCt.mem _).1 (by rw [zc5 hi'];exact List.getElem_mem hi')).1
 rw [← hx] at V;obtain ⟨N,hN⟩:∃ N,N=l.length:=⟨_,rfl⟩;have HN:=hid hN;rw [← hN] at V HKD hNl;have HRD:Hid (∀ i,i<N→zab.rd w2 hi (x i) (ce i)):=fun i hi'=>V.each i hi';obtain ⟨a2,c2,rfl⟩:=V.form;have L2:Ldg w2 (w.heap.size+1) (w.heap.size+1+1+1+1+1+1) d.shape 0 0 x ce (.slice none 0 0) (w.heap.size+1) (w.heap.size+1+1) (w.heap.size+1+1+1) (w.heap.size+1+1+1+1) (w.heap.size+1+1+1+1+1):=(HL0.out x ce).keepAll (fun b hb=>b2.block b hb);have HB2:Hid (Below w.heap.size w w2):=HBW.out.trans (b2.mono (by omega));have z2:W1.heap.size≤w2.heap.size:=b2.size
 have AP:∀ g,(Value.slice a2 N c2).ownBlock=some g→w.heap.size+7≤g:=fun g hg=>by
  rcases V.row.2 with ⟨q,_⟩ | ⟨g',cap',cur,q,q1,_⟩
  ·cases q
   cases hg
  ·cases q
   cases hg
   show w.heap.size+7≤g'
   omega
 have HV:=hid V
 have HAP:Hid (∀ g,(Value.slice a2 N c2).ownBlock=some g→w.heap.size+7≤g∧g<w2.heap.size):=fun g hg=>⟨AP g hg,by
  rcases V.row.2 with ⟨q,_⟩ | ⟨g',cap',cur,q,q1,q2,_⟩
  ·cases q
   cases hg
  ·cases q
   cases hg
   exact (Array.getElem?_eq_some_iff.1 q2).1⟩
 clear V AP CC b2 hCt hx hN x11 hn0 hn1 h2 hlo;go_wp2
 go_loopw [19] (fun i wr=>∃ (k:Nat) (v:Value),k≤N∧i=.int .i64 k∧Ldg wr (w.heap.size+1) (w.heap.size+1+1+1+1+1+1) d.shape k k x ce v (w.heap.size+1) (w.heap.size+1+1) (w.heap.size+1+1+1) (w.heap.size+1+1+1+1) (w.heap.size+1+1+1+1+1)∧(∀ g,(Value.slice a2 N c2).ownBlock=some g→v.ownBlock≠some g∧wr.heap[g]?=w2.heap[g]?)∧Below (w.heap.size+1) w2 wr) (fun i _=>N-(intOf i).toNat)
 case atStart=>exact ⟨0,_,Nat.zero_le _,rfl,L2,fun g hg=>⟨(fun e=>by cases e),rfl⟩,Below.refl _ _⟩
 case round=>
  clear L2;obtain ⟨k,v,hk,rfl,hL,hA,hb⟩:=hrel;have zr:w2.heap.size≤wr.heap.size:=hb.size
  by_cases hlt:k<N
  ·have HL:=hid hL
   have HA:=hid hA;have HBr:=hid hb;have Vr:View zab 83 wr lo hi (.slice a2 N c2) N x ce:=HV.out.kept (fun b hb'=>(hA b hb').2) (hb.mono (by omega));obtain ⟨g,cg,hgg⟩:=Vr.form0 (by omega)
   have hga:a2=some ⟨g,0,none⟩:=by cases hgg;rfl
   have hcg:c2=cg:=by cases hgg;rfl
   subst hga;subst hcg;have hrk:=HRD.out k hlt;obtain ⟨ao6,cap6,ao7,cap7,ao8,cap8,ec,-⟩:=zaw hrk;have HRK:=hid hrk;have HEC:=hid ec
   have hcell:∀ j,j<9→wr.cell? ⟨g,k*9+j,none⟩=([.int .i64 (x k).kind,.int .i64 (x k).seq,.string (x k).name,.int .i64 (x k).length,.int .i64 (x k).group,.int .i64 (x k).row,.slice ao6 (x k).rows.1 cap6,.slice ao7 (x k).data.1 cap7,.slice ao8 (x k).delta.1 cap8]:List Value)[j]?:=fun j hj=>by rw [← ec];exact Vr.cell hlt hj
   obtain ⟨r,hr⟩:∃ r,r=x k:=⟨_,rfl⟩;rw [← hr] at hcell;have HR:=hid hr
   have t1:(k:Int)<(N:Int):=by omega
   have y0:wr.cell? ⟨g,k*9,none⟩=some (.int .i64 r.kind):=hcell 0 (by decide);have y1:wr.cell? ⟨g,k*9+1,none⟩=some (.int .i64 r.seq):=hcell 1 (by decide);have y2:wr.cell? ⟨g,k*9+2,none⟩=some (.string r.name):=hcell 2 (by decide);have y3:wr.cell? ⟨g,k*9+3,none⟩=some (.int .i64 r.length):=hcell 3 (by decide);have y4:wr.cell? ⟨g,k*9+4,none⟩=some (.int .i64 r.group):=hcell 4 (by decide);have y5:wr.cell? ⟨g,k*9+5,none⟩=some (.int .i64 r.row):=hcell 5 (by decide);have y6:wr.cell? ⟨g,k*9+6,none⟩=some (.slice ao6 r.rows.1 cap6):=hcell 6 (by decide);have y7:wr.cell? ⟨g,k*9+7,none⟩=some (.slice ao7 r.data.1 cap7):=hcell 7 (by decide);have y8:wr.cell? ⟨g,k*9+8,none⟩=some (.slice ao8 r.delta.1 cap8):=hcell 8 (by decide)
   have hkN:k≤1000000:=by omega
   clear hL hA hb Vr hrk ec hcell hr
   go_wp2_with fail
   refine (zi7 r.kind r ao6 ao7 ao8 cap6 cap7 cap8 _).mono ?_;rintro e w3 ⟨rfl,b3⟩;have b3':Below wr.heap.size wr w3:=((Below.refl wr.heap.size wr).alloc (Nat.le_refl _) _).trans (b3.mono (by simp));have L3:=HL.out.keepAll (fun b hb'=>b3'.block b hb');have z3:wr.heap.size≤w3.heap.size:=b3'.size;have CE:=zj6 L3 hkN (by omega) HRK.out (HKD.out k hlt);rw [HEC.out,← HR.out] at CE;have HB3:=hid b3';clear b3 b3' L3
   go_wp2_with fail
   refine CE.mono ?_;rintro e w4 ⟨rfl,⟨v',L4,q1,q2⟩,b4⟩;have HL4:=hid L4;have HB4:Hid (Below (w.heap.size+1) w2 w4):=(HBr.out.trans (HB3.out.mono (by omega))).trans b4
   have HA4:Hid (∀ g',(Value.slice (some ⟨g,0,none⟩) N c2).ownBlock=some g'→v'.ownBlock≠some g'∧w4.heap[g']?=w2.heap[g']?):=fun g' hg'=>by
    obtain ⟨p1,p2⟩:=HA.out g' hg';obtain ⟨p3,p4⟩:=HAP.out g' hg';refine ⟨?_,?_⟩
    ·rcases q1 with e | ⟨g9,e1,e2⟩
     ·rw [e];exact p1
     ·rw [e2]
      intro e3
      cases e3
      omega
    ·rw [q2 g' (by omega) (by simp;omega) p1,HB3.out.block g' (by omega)]
     exact p2
   clear L4 q1 q2 b4 CE y0 y1 y2 y3 y4 y5 y6 y7 y8;go_wp2
   go_roundw
   case rel=>exact ⟨k+1,v',by omega,by go_num,HL4.out,HA4.out,HB4.out⟩
   case measure=>simp [intOf];omega
  ·obtain rfl:k=N:=by omega
   have hL':=hL;rw [HN.out,HX.out] at hL';have HL:=hid hL'
   have HRr:Hid (∀ i,i<l.length→zab.rd wr hi (recT d.tapes.2 2 (l.getD i 0)) (ce i)):=fun i hi'=>by
    have:=HRD.out i (by rw [HN.out];exact hi');rw [HX.out] at this;exact zab.rd_below this (hb.mono (Nat.le_trans hhi (Nat.le_succ _))) (Nat.le_refl _)
   have HBr:=hid (HB2.out.trans (hb.mono (Nat.le_succ _)));clear hL hL' hA hb;go_wp2;go_ret;exact ⟨_,l,ce,v,_,_,_,_,_,rfl,HCt.out,HL.out,HRr.out,HBr.out⟩
end Go.Proofs.YtajibninhikdgaaGreat
namespace Go.Proofs.YtajibninhikdgaaGreat
def zbl (p:Nat→Bool) (n:Nat):List Nat:=(List.range n).filter p
theorem zcv (p:Nat→Bool) (n:Nat):zbl p (n+1)=zbl p n++(if p n then [n] else []):=by
 unfold zbl;rw [List.range_succ,List.filter_append]
 cases h:p n<;>simp [h]
theorem zlp {p:Nat→Bool} {n i:Nat} (h:i∈zbl p n):i<n:=by
 unfold zbl at h;exact List.mem_range.1 (List.mem_filter.1 h).1
theorem zlq (p:Nat→Bool) (n:Nat):(zbl p n).length≤n:=by
 have:=List.length_filter_le p (List.range n);unfold zbl
 simpa using this
theorem zi8 (p:Nat→Bool) (n:Nat):(zbl p n).Nodup:=List.Pairwise.filter _ List.nodup_range
def zbN (p:Nat→Bool) (n:Nat):Nat→Nat:=fun m=>(zbl p n).getD m 0
theorem zi9 {p:Nat→Bool} {n m:Nat} (h:m<(zbl p n).length):zbN p (n+1) m=zbN p n m:=by
 unfold zbN;rw [zcv,List.getD_eq_getElem?_getD,List.getD_eq_getElem?_getD,List.getElem?_append_left h]
theorem zja {p:Nat→Bool} {n:Nat} (h:p n=true):zbN p (n+1) (zbl p n).length=n:=by
 unfold zbN;rw [zcv,List.getD_eq_getElem?_getD,List.getElem?_append_right (Nat.le_refl _),Nat.sub_self,if_pos h];rfl
theorem zgT {p:Nat→Bool} {n:Nat} (h:p n=false):zbl p (n+1)=zbl p n:=by rw [zcv,if_neg (by simp [h])];simp
end Go.Proofs.YtajibninhikdgaaGreat
