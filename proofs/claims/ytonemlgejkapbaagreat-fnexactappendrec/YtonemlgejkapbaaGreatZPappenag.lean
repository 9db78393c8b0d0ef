/- Walk of the specification's WorldFault where the form of a world has no fault; and whole. -/
import Derived.StillTailTactics
import Derived.Lib.MinMax
import Derived.Laws.StructEq
import Derived.Test.YtonemlgejkapbaaGreatZPappenaf
set_option linter.unusedVariables false
set_option linter.unusedSimpArgs false
set_option maxHeartbeats 16000000
namespace Go.Proofs.YtonemlgejkapbaaGreat
open Go.RowKit F256
set_option maxRecDepth 20000 in
theorem zgy (d:WorldD) (cs:List Value) (hi:Nat) (w:World) (h:zae.rd w hi d cs) (hhi:hi≤w.heap.size) (hnm:∀ t,t<d.tapes.1→∀ i,i<(d.tapes.2 t).recs.1→((d.tapes.2 t).recs.2 i).name.size≤1048576) (hok':zaq d.shape) (hsel:zcg d) :
 Calls Tryz.prog 66 #[.agg cs.toArray] w (zcE d w):=by
 obtain ⟨ao1,cap1,ao2,cap2,ao3,cap3,rfl,g1,g2,g3,-⟩:=zaR h;have HRD:=hid h;obtain ⟨v2,e2,⟨h2,hcp2⟩,_⟩:=g2
 cases e2
 have H2:=hid h2;have HCP:=hid hcp2;have hm2:=h2.mx;obtain ⟨_,_,e3,hm3,hc3⟩:=g3
 cases e3
 unfold maxLen at hm2 hm3;have HC3:=hid hc3;have HNM:=hid hnm;clear h h2 hcp2 hc3 g1 hnm;have T0:=zaQ w (rwW d ao1 cap1 ao2 cap2 ao3 cap3).toArray 38;have CSh:=fun w'=>zbm d.shape w';unfold zak at CSh
 go_enter Tryz.func66,Tryz.ntmps66
 go_wp2_with fail
 refine (CSh _).mono ?_;rintro e w1 ⟨x,rfl,hx,b1⟩;have T1:One w w1 (rwW d ao1 cap1 ao2 cap2 ao3 cap3).toArray 38:=T0.call b1;have HT1:=hid T1;clear b1 T0 CSh;have x1_0:w1.cell? ⟨w.heap.size,0,none⟩=some (.int .i64 (d.shape 0)):=T1.b1.cell 0;have kx1_0:=cell_regrown x1_0;have x1_1:w1.cell? ⟨w.heap.size,1,none⟩=some (.int .i64 (d.shape 1)):=T1.b1.cell 1;have kx1_1:=cell_regrown x1_1;have x1_2:w1.cell? ⟨w.heap.size,2,none⟩=some (.int .i64 (d.shape 2)):=T1.b1.cell 2;have kx1_2:=cell_regrown x1_2;have x1_3:w1.cell? ⟨w.heap.size,3,none⟩=some (.int .i64 (d.shape 3)):=T1.b1.cell 3;have kx1_3:=cell_regrown x1_3;have x1_4:w1.cell? ⟨w.heap.size,4,none⟩=some (.int .i64 (d.shape 4)):=T1.b1.cell 4;have kx1_4:=cell_regrown x1_4;have x1_5:w1.cell? ⟨w.heap.size,5,none⟩=some (.int .i64 (d.shape 5)):=T1.b1.cell 5;have kx1_5:=cell_regrown x1_5;have x1_6:w1.cell? ⟨w.heap.size,6,none⟩=some (.int .i64 (d.shape 6)):=T1.b1.cell 6;have kx1_6:=cell_regrown x1_6;have x1_7:w1.cell? ⟨w.heap.size,7,none⟩=some (.int .i64 (d.shape 7)):=T1.b1.cell 7;have kx1_7:=cell_regrown x1_7;have x1_8:w1.cell? ⟨w.heap.size,8,none⟩=some (.int .i64 (d.shape 8)):=T1.b1.cell 8;have kx1_8:=cell_regrown x1_8;have x1_9:w1.cell? ⟨w.heap.size,9,none⟩=some (.slice ao1 d.groups.1 cap1):=T1.b1.cell 9;have kx1_9:=cell_regrown x1_9;have x1_10:w1.cell? ⟨w.heap.size,10,none⟩=some (.slice ao2 d.on.1 cap2):=T1.b1.cell 10;have kx1_10:=cell_regrown x1_10;have x1_11:w1.cell? ⟨w.heap.size,11,none⟩=some (.slice ao3 d.tapes.1 cap3):=T1.b1.cell 11;have kx1_11:=cell_regrown x1_11;have x1_12:w1.cell? ⟨w.heap.size,12,none⟩=some (.int .i64 d.writes):=T1.b1.cell 12;have kx1_12:=cell_regrown x1_12;have x1_13:w1.cell? ⟨w.heap.size,13,none⟩=some (.int .i64 d.stop):=T1.b1.cell 13;have kx1_13:=cell_regrown x1_13;have x1_14:w1.cell? ⟨w.heap.size,14,none⟩=some (.bool d.down):=T1.b1.cell 14;have kx1_14:=cell_regrown x1_14;clear T1
 rcases hx with ⟨rfl,hno⟩ | ⟨rfl,hok⟩
 ·go_wp2
  go_ret;exact wldP rfl (Stair.fall hno) HT1.out.bel
 have HOK:=hid hok
 have hsb:1≤d.shape 0∧d.shape 0≤4∧0≤d.shape 1∧d.shape 1≤2:=by
  obtain ⟨h1,_⟩:=hok;unfold Shp3 at h1;omega
 clear hok;obtain ⟨t1,h1⟩:=exB (zcs d);obtain ⟨t2,h2⟩:=exB (zbR d.on.1 d.on.2 (d.shape 0+d.shape 1-1));obtain ⟨b3',h3⟩:∃ b,decide (d.shape 5<(d.on.1:Int))=b:=⟨_,rfl⟩;obtain ⟨g',h4⟩:∃ b,decide (0<d.on.1)=b:=⟨_,rfl⟩;obtain ⟨b5',h5⟩:∃ b,((d.tapes.1:Int) != 2)=b:=⟨_,rfl⟩;have c1:=zaE (W:=w1) (fun w' hw'=>zbF (zcj d HOK.out _ hi w' (zae.rd_below (zae.rd_below HRD.out HT1.out.bel hhi) hw' (Nat.le_trans hhi HT1.out.bel.size)) (Nat.le_trans hhi (Nat.le_trans HT1.out.bel.size hw'.size))) h1);have c2:=zaE (W:=w1) (fun w' hw'=>zbF (zb3 _ d.on.1 d.on.2 hi (d.shape 0+d.shape 1-1) w' ((H2.out.below HT1.out.bel hhi).below hw' (Nat.le_trans hhi HT1.out.bel.size)) HCP.out (Nat.le_trans hhi (Nat.le_trans HT1.out.bel.size hw'.size))) h2);have cA:=zaE (W:=w1) (fun w' _=>zbS d.shape HOK.out w');unfold zak at cA
 have wsA:IntKind.i64.wrap (d.shape 0+d.shape 1-1)=d.shape 0+d.shape 1-1:=by rw [IntKind.wrap_i64];omega
 have h4':decide (0<(d.on.1:Int))=g':=by rw [← h4];simp
 obtain ⟨dn,hdn⟩:∃ x,x=d.down:=⟨_,rfl⟩
 have HE:Hid (zcg d↔(t1=true∧t2=true∧b3'=false∧(dn=true→g'=false)∧b5'=false)):=by
  show zcg d↔_
  have e3:(decide (d.shape 5<(d.on.1:Int))=false)↔(d.on.1:Int)≤d.shape 5:=by simp
  have e4:(decide (0<d.on.1)=false)↔d.on.1=0:=by simp
  have e5:(((d.tapes.1:Int) != 2)=false)↔d.tapes.1=2:=by simp;omega
  rw [h1,h2,← h3,← h4,← h5,hdn,e3,e4,e5];unfold zcg OnP
  constructor
  ·rintro ⟨a,⟨b,c,e⟩,f⟩
   exact ⟨a,b,c,e,f⟩
  ·rintro ⟨a,b,c,e,f⟩
   exact ⟨a,⟨b,c,e⟩,f⟩
 have hst:(t1=true∧t2=true∧b3'=false∧dn=true∧g'=false∧b5'=false)∨(t1=true∧t2=true∧b3'=false∧dn=false∧b5'=false):=by
  obtain ⟨a1,a2,a3,a4,a5⟩:=HE.out.1 hsel
  cases dn with
  | true=>exact .inl ⟨a1,a2,a3,rfl,a4 rfl,a5⟩
  | false=>exact .inr ⟨a1,a2,a3,rfl,a5⟩
 have HFM:=hid hsel;have htp:d.tapes.1=2:=hsel.2.2;have HTP:=hid htp;rw [← hdn] at x1_14 kx1_14 c1;clear h1 h2 hsel hok' htp HE
 go_upto_region 4 with fail
 go_cut [51] (fun v wx=>v=.bool false∧Below w1.heap.size w1 wx)
 case first=>
  clear hdn
  rcases hst with ⟨rfl,rfl,rfl,rfl,rfl,rfl⟩ | ⟨rfl,rfl,rfl,rfl,rfl⟩
  all_goals
   refine WQ.region (by kernel_rfl) (by kernel_rfl) ?_
   repeat (first | (apply WQ.free;(case hw=>rfl);intro K hK;go_simp;first | (apply hK;clear hK K) | (apply Exists.intro;apply And.intro;(case left=>intro p;(first | (go_at_call 105;exact c1 _ _) | (go_at_call 106;exact c2 _ _) | (go_at_call 67;exact cA _ _)));apply hK;clear hK K)) | (apply WQ.skip;(case hw=>rfl);intro K hK;go_simp;apply hK;clear hK K) | (apply WQ.want;(case hw=>rfl);intro K hK;go_simp;first | (apply hK;clear hK K) | (apply Exists.intro;apply And.intro;(case left=>intro p;(first | (go_at_call 105;exact c1 _ _) | (go_at_call 106;exact c2 _ _) | (go_at_call 67;exact cA _ _)));apply hK;clear hK K)))
   refine WQ.nil ?_;intro w2 hw2;have HB2:=hid (zaO hw2);clear hw2;go_wp2
   go_meet
   exact ⟨rfl,HB2.out⟩
 case rest=>
  obtain ⟨rfl,b2⟩:=hcut;obtain ⟨w2,rfl⟩:∃ x,x=wc:=⟨_,rfl⟩;have T2:One w w2 (rwW d ao1 cap1 ao2 cap2 ao3 cap3).toArray 38:=HT1.out.call b2
  rw [hdn] at *
  clear x1_0 kx1_0 x1_1 kx1_1 x1_2 kx1_2 x1_3 kx1_3 x1_4 kx1_4 x1_5 kx1_5 x1_6 kx1_6 x1_7 kx1_7 x1_8 kx1_8 x1_9 kx1_9 x1_10 kx1_10 x1_11 kx1_11 x1_12 kx1_12 x1_13 kx1_13 x1_14 kx1_14 c1 c2 cA hst h3 h4 h4' h5 b2 HT1 wsA hdn;obtain ⟨b3,off3,he3,hb3,hel3⟩:=HC3.out (by have:=HTP.out;omega);subst he3;have HT2:=hid T2;have HEL:=hid hel3;obtain ⟨ce0,hr0,hce0⟩:=zas (t:=0) hel3 T2.bel hhi hb3 (show 0<d.tapes.1 by have:=HTP.out;omega);obtain ⟨ce1,hr1,hce1⟩:=zas (t:=0) hel3 T2.bel hhi hb3 (show 1<d.tapes.1 by have:=HTP.out;omega);obtain ⟨ap0,cp0,rfl,gt0⟩:=za1 hr0;obtain ⟨ap1,cp1,rfl,gt1⟩:=za1 hr1
  have hl0:(d.tapes.2 0).recs.1≤maxLen:=by obtain ⟨_,_,_,h,_⟩:=gt0;exact h
  have hl1:(d.tapes.2 1).recs.1≤maxLen:=by obtain ⟨_,_,_,h,_⟩:=gt1;exact h
  unfold maxLen at hl0 hl1
  have q0:w2.cell? ⟨b3,off3+1,none⟩=some (.slice ap0 (d.tapes.2 0).recs.1 cp0):=by
   have:=hce0 1 (by decide)
   simpa using this
  have q1:w2.cell? ⟨b3,off3+2+1,none⟩=some (.slice ap1 (d.tapes.2 1).recs.1 cp1):=hce1 1 (by decide);have q1':w2.cell? ⟨b3,off3+3,none⟩=some (.slice ap1 (d.tapes.2 1).recs.1 cp1):=hce1 1 (by decide);have x2_11:w2.cell? ⟨w.heap.size,11,none⟩=some (.slice (some ⟨b3,off3,none⟩) d.tapes.1 cap3):=T2.b1.cell 11;obtain ⟨f0,k0⟩:∃ b,decide (200<(d.tapes.2 0).recs.1)=b:=⟨_,rfl⟩;obtain ⟨f1,k1⟩:∃ b,decide (200<(d.tapes.2 1).recs.1)=b:=⟨_,rfl⟩
  have k0':decide (200<((d.tapes.2 0).recs.1:Int))=f0:=by rw [← k0];congr 1;apply propext;omega
  have k1':decide (200<((d.tapes.2 1).recs.1:Int))=f1:=by rw [← k1];congr 1;apply propext;omega
  clear hce0 hce1 hr0 hr1 gt0 gt1 hel3 T2
  have hge:2≤d.tapes.1:=by have:=HTP.out;omega
  have hle:d.tapes.1≤2:=by have:=HTP.out;omega
  have HF0:Hid (f0=false→(d.tapes.2 0).recs.1≤200):=fun e=>by rw [← k0] at e;simpa using e
  have HF1:Hid (f1=false→(d.tapes.2 1).recs.1≤200):=fun e=>by rw [← k1] at e;simpa using e
  have HG0:Hid (f0=true→¬ (d.tapes.2 0).recs.1≤200):=fun e=>by rw [← k0] at e;simpa using e
  have HG1:Hid (f1=true→¬ (d.tapes.2 1).recs.1≤200):=fun e=>by rw [← k1] at e;simpa using e
  cases f0 with
  | true=>
   go_wp2;go_ret;exact wldP rfl (Stair.pass HOK.out (Stair.pass HFM.out (Stair.fall (fun h=>HG0.out (by simp) (h 0 (by omega)))))) HT2.out.bel
  | false=>
  cases f1 with
  | true=>
   go_wp2;go_ret;exact wldP rfl (Stair.pass HOK.out (Stair.pass HFM.out (Stair.fall (fun h=>HG1.out (by simp) (h 1 (by omega)))))) HT2.out.bel
  | false=>
  have HFW:Hid (FewP d):=fun t ht=>by
   by_cases c:t=0
   ·subst c;exact HF0.out (by simp)
   ·obtain rfl:t=1:=by omega
    exact HF1.out (by simp)
  go_wp2;clear k0 k1 k0' k1' HF0 HF1 HG0 HG1 q0 q1 q1' x2_11 hl0 hl1
  go_loopw [4] (fun v wr=>∃ t:Nat,t≤d.tapes.1∧v=.int .i64 t∧(∀ u,u<t→∀ k,k<(d.tapes.2 u).recs.1→RecAns d.shape ((d.tapes.2 u).recs.2 k) 0)∧One w wr (rwW d ao1 cap1 ao2 cap2 (some ⟨b3,off3,none⟩) cap3).toArray 38) (fun v _=>d.tapes.1-(intOf v).toNat)
  case atStart=>exact ⟨0,Nat.zero_le _,rfl,fun i hi=>by omega,HT2.out⟩
  case round=>
   clear HT2;obtain ⟨t,ht,rfl,hal,T3⟩:=hrel;obtain ⟨wo,rfl⟩:∃ x,x=wr:=⟨_,rfl⟩;have HAL:=hid hal;have HT3:=hid T3;clear hal
   by_cases hlt:t<d.tapes.1
   ·have zo:w.heap.size<wo.heap.size:=T3.b1.lt
    have hd2:decide ((t:Int)<2)=true:=decide_eq_true (by omega);clear T3;go_wp2
    go_loopw [5] (fun v wx=>∃ i:Nat,i≤(d.tapes.2 t).recs.1∧v=.int .i64 i∧(∀ k,k<i→RecAns d.shape ((d.tapes.2 t).recs.2 k) 0)∧One w wx (rwW d ao1 cap1 ao2 cap2 (some ⟨b3,off3,none⟩) cap3).toArray 38) (fun v _=>(d.tapes.2 t).recs.1-(intOf v).toNat)
    case atStart=>exact ⟨0,Nat.zero_le _,rfl,fun i hi=>by omega,HT3.out⟩
    case round=>
     clear HT3;obtain ⟨i,hi',rfl,hal2,T4⟩:=hrel;obtain ⟨wx,rfl⟩:∃ x,x=wr:=⟨_,rfl⟩;have HAL2:=hid hal2;have HT4:=hid T4;have zx:w.heap.size<wx.heap.size:=T4.b1.lt;clear hal2;obtain ⟨ct,hrt,hct⟩:=zas (t:=0) HEL.out T4.bel hhi hb3 hlt;obtain ⟨ap,cp,rfl,gt⟩:=za1 hrt;have c1:wx.cell? ⟨b3,off3+t*2+1,none⟩=some (.slice ap (d.tapes.2 t).recs.1 cp):=hct 1 (by decide);obtain ⟨_,_,et,hmt,hct'⟩:=gt
     cases et
     unfold maxLen at hmt;have HCT:=hid hct';have x5_11:wx.cell? ⟨w.heap.size,11,none⟩=some (.slice (some ⟨b3,off3,none⟩) d.tapes.1 cap3):=T4.b1.cell 11;clear hct hrt hct'
     by_cases hli:i<(d.tapes.2 t).recs.1
     ·obtain ⟨b6,off6,he6,hb6,hel6⟩:=HCT.out (by omega)
      subst he6;obtain ⟨cr,hrr,hcr⟩:=hel6 i hli;obtain ⟨ro6,rc6,ro7,rc7,ro8,rc8,rfl,-⟩:=zbd hrr;have r0:wx.cell? ⟨b6,off6+i*9,none⟩=some (.int .i64 ((d.tapes.2 t).recs.2 i).kind):=hcr 0 (by decide);have kr0:=cell_regrown r0;have r1:wx.cell? ⟨b6,off6+i*9+1,none⟩=some (.int .i64 ((d.tapes.2 t).recs.2 i).seq):=hcr 1 (by decide);have kr1:=cell_regrown r1;have r2:wx.cell? ⟨b6,off6+i*9+2,none⟩=some (.string ((d.tapes.2 t).recs.2 i).name):=hcr 2 (by decide);have kr2:=cell_regrown r2;have r3:wx.cell? ⟨b6,off6+i*9+3,none⟩=some (.int .i64 ((d.tapes.2 t).recs.2 i).length):=hcr 3 (by decide);have kr3:=cell_regrown r3;have r4:wx.cell? ⟨b6,off6+i*9+4,none⟩=some (.int .i64 ((d.tapes.2 t).recs.2 i).group):=hcr 4 (by decide);have kr4:=cell_regrown r4;have r5:wx.cell? ⟨b6,off6+i*9+5,none⟩=some (.int .i64 ((d.tapes.2 t).recs.2 i).row):=hcr 5 (by decide);have kr5:=cell_regrown r5;have r6:wx.cell? ⟨b6,off6+i*9+6,none⟩=some (.slice ro6 ((d.tapes.2 t).recs.2 i).rows.1 rc6):=hcr 6 (by decide);have kr6:=cell_regrown r6;have r7:wx.cell? ⟨b6,off6+i*9+7,none⟩=some (.slice ro7 ((d.tapes.2 t).recs.2 i).data.1 rc7):=hcr 7 (by decide);have kr7:=cell_regrown r7;have r8:wx.cell? ⟨b6,off6+i*9+8,none⟩=some (.slice ro8 ((d.tapes.2 t).recs.2 i).delta.1 rc8):=hcr 8 (by decide);have kr8:=cell_regrown r8;have HRR:=hid hrr;obtain ⟨X,hX⟩:∃ X,RecAns d.shape ((d.tapes.2 t).recs.2 i) X:=zcO (K:=isZ) ⟨0,rfl⟩ _;have HX:=hid hX;have kx5_11:=cell_regrown x5_11;have kc1:=cell_regrown c1;have x5_0:wx.cell? ⟨w.heap.size,0,none⟩=some (.int .i64 (d.shape 0)):=T4.b1.cell 0;have kx5_0:=cell_regrown x5_0;have x5_1:wx.cell? ⟨w.heap.size,1,none⟩=some (.int .i64 (d.shape 1)):=T4.b1.cell 1;have kx5_1:=cell_regrown x5_1;have x5_2:wx.cell? ⟨w.heap.size,2,none⟩=some (.int .i64 (d.shape 2)):=T4.b1.cell 2;have kx5_2:=cell_regrown x5_2;have x5_3:wx.cell? ⟨w.heap.size,3,none⟩=some (.int .i64 (d.shape 3)):=T4.b1.cell 3;have kx5_3:=cell_regrown x5_3;have x5_4:wx.cell? ⟨w.heap.size,4,none⟩=some (.int .i64 (d.shape 4)):=T4.b1.cell 4;have kx5_4:=cell_regrown x5_4;have x5_5:wx.cell? ⟨w.heap.size,5,none⟩=some (.int .i64 (d.shape 5)):=T4.b1.cell 5;have kx5_5:=cell_regrown x5_5;have x5_6:wx.cell? ⟨w.heap.size,6,none⟩=some (.int .i64 (d.shape 6)):=T4.b1.cell 6;have kx5_6:=cell_regrown x5_6;have x5_7:wx.cell? ⟨w.heap.size,7,none⟩=some (.int .i64 (d.shape 7)):=T4.b1.cell 7
      have kx5_7:=cell_regrown x5_7;have x5_8:wx.cell? ⟨w.heap.size,8,none⟩=some (.int .i64 (d.shape 8)):=T4.b1.cell 8;have kx5_8:=cell_regrown x5_8;have CR:=zaE (W:=wx) (fun w' hw'=>zh1 HX.out (zdQ d.shape ((d.tapes.2 t).recs.2 i) _ hi w' (zac.rd_below HRR.out hw' (by omega)) (Nat.le_trans (by omega) hw'.size) (HNM.out t hlt i hli)));unfold zak at CR;clear hel6 hcr hrr T4 hX
      go_upto_region 14 with fail
      refine WQ.region (by kernel_rfl) (by kernel_rfl) ?_
      repeat (first | (apply WQ.skip;(case hw=>rfl);intro K hK;go_simp;apply hK;clear hK K) | (apply WQ.want;(case hw=>rfl);intro K hK;go_simp;first | (apply hK;clear hK K) | (apply Exists.intro;apply And.intro;(case left=>intro p;(first | (go_at_call 58;exact CR _ _)));apply hK;clear hK K)))
      refine WQ.nil ?_;intro w6 hw6;have HT6:=hid (HT4.out.call (zaO hw6));clear hw6 CR r0 kr0 x5_0 kx5_0 r1 kr1 x5_1 kx5_1 r2 kr2 x5_2 kx5_2 r3 kr3 x5_3 kx5_3 r4 kr4 x5_4 kx5_4 r5 kr5 x5_5 kx5_5 r6 kr6 x5_6 kx5_6 r7 kr7 x5_7 kx5_7 r8 kr8 x5_8 kx5_8 x5_11 kx5_11 c1 kc1
      by_cases hx0:X=0
      ·subst hx0
       go_wp2
       go_roundw
       case rel=>exact ⟨i+1,by omega,by go_num,fun k hk=>by
        by_cases c:k=i
        ·subst c;exact HX.out
        ·exact HAL2.out k (by omega),HT6.out⟩
       case measure=>simp [intOf];omega
      ·have hne:(X != 0)=true:=by simp [hx0]
       go_wp2;go_ret;exact wldP rfl (Stair.pass HOK.out (Stair.pass HFM.out (Stair.pass HFW.out (Stair.last (.inl ⟨hx0,.inr ⟨hx0,t,i,hlt,hli,HX.out,HAL2.out,HAL.out⟩⟩))))) HT6.out.bel
     ·obtain rfl:i=(d.tapes.2 t).recs.1:=by omega
      clear T4;go_wp2
      go_roundw
      case rel=>exact ⟨t+1,by omega,by go_num,fun u hu=>by
       by_cases c:u=t
       ·subst c;exact HAL2.out
       ·exact HAL.out u (by omega),HT4.out⟩
      case measure=>simp [intOf];omega
   ·obtain rfl:t=d.tapes.1:=by omega
    clear T3;have HRA:Hid (RecsAns d.shape d.tapes.1 d.tapes.2 0):=.inl ⟨rfl,HAL.out⟩;go_wp2
    go_loop [7] (fun v=>∃ t:Nat,t≤d.tapes.1∧v=.int .i64 t∧∀ u,u<t→(d.tapes.2 u).wiped=true→(d.tapes.2 u).recs.1=0) (fun v=>d.tapes.1-(intOf v).toNat)
    case atStart=>exact ⟨0,Nat.zero_le _,rfl,fun i hi=>by omega⟩
    case round=>
     obtain ⟨t,ht,rfl,hal⟩:=hrel;have HAL3:=hid hal;clear hal
     by_cases hlt:t<d.tapes.1
     ·obtain ⟨ct,hrt,hct⟩:=zas (t:=0) HEL.out HT3.out.bel hhi hb3 hlt
      obtain ⟨ap,cp,rfl,gt⟩:=za1 hrt;have c0:wo.cell? ⟨b3,off3+t*2,none⟩=some (.bool (d.tapes.2 t).wiped):=hct 0 (by decide);have c1:wo.cell? ⟨b3,off3+t*2+1,none⟩=some (.slice ap (d.tapes.2 t).recs.1 cp):=hct 1 (by decide);have x5_11:wo.cell? ⟨w.heap.size,11,none⟩=some (.slice (some ⟨b3,off3,none⟩) d.tapes.1 cap3):=HT3.out.b1.cell 11;obtain ⟨u,hu⟩:∃ u,u=(d.tapes.2 t).wiped:=⟨_,rfl⟩;obtain ⟨g,hg⟩:∃ b,decide (0<(d.tapes.2 t).recs.1)=b:=⟨_,rfl⟩
      have hg':decide (0<((d.tapes.2 t).recs.1:Int))=g:=by rw [← hg];simp
      rw [← hu] at c0
      have HE3:Hid (((d.tapes.2 t).wiped=true→(d.tapes.2 t).recs.1=0)↔(u=true→g=false)):=by
       show _↔_
       rw [← hu,← hg]
       simp
      clear hct hrt gt hu
      cases u with
      | false=>
       go_wp2
       go_round
       case rel=>exact ⟨t+1,by omega,by go_num,fun u hu=>by
        by_cases c:u=t
        ·subst c;exact HE3.out.2 (by simp)
        ·exact HAL3.out u (by omega)⟩
       case measure=>simp [intOf];omega
      | true=>
       cases g with
       | false=>
        go_wp2
        go_round
        case rel=>exact ⟨t+1,by omega,by go_num,fun u hu=>by
         by_cases c:u=t
         ·subst c;exact HE3.out.2 (by simp)
         ·exact HAL3.out u (by omega)⟩
        case measure=>simp [intOf];omega
       | true=>
        go_wp2;go_ret;exact wldP rfl (Stair.pass HOK.out (Stair.pass HFM.out (Stair.pass HFW.out (Stair.last (.inr ⟨HRA.out,Stair.fall (fun h=>by have:=HE3.out.1 (h t hlt);simp at this)⟩))))) HT3.out.bel
     ·obtain rfl:t=d.tapes.1:=by omega
      have HCL:=hid HAL3.out;have x5_12:wo.cell? ⟨w.heap.size,12,none⟩=some (.int .i64 d.writes):=HT3.out.b1.cell 12;have x5_13:wo.cell? ⟨w.heap.size,13,none⟩=some (.int .i64 d.stop):=HT3.out.b1.cell 13;obtain ⟨t1,h1⟩:=exB (InP d.writes 0 1000000000);obtain ⟨t2,h2⟩:=exB (InP d.stop (-1) 1000000000);have C1:=fun w'=>zb6 (w:=w') h1;have C2:=fun w'=>zb6 (w:=w') h2
      have HE4:Hid (zeu d↔(t1=true∧t2=true)):=by
       show zeu d↔_
       rw [h1,h2];exact Iff.rfl
      clear h1 h2
      go_wp2_with fail
      refine (C1 _).mono ?_;rintro e w' ⟨rfl,hw'⟩;obtain rfl:=hw'.symm;clear C1
      cases t1 with
      | false=>
       go_wp2;go_ret;exact wldP rfl (Stair.pass HOK.out (Stair.pass HFM.out (Stair.pass HFW.out (Stair.last (.inr ⟨HRA.out,Stair.pass HCL.out (Stair.fall (fun h=>by have:=HE4.out.1 h;simp at this))⟩))))) HT3.out.bel
      | true=>
       go_wp2_with fail
       refine (C2 _).mono ?_;rintro e w' ⟨rfl,hw'⟩;obtain rfl:=hw'.symm;clear C2
       cases t2 with
       | false=>
        go_wp2;go_ret;exact wldP rfl (Stair.pass HOK.out (Stair.pass HFM.out (Stair.pass HFW.out (Stair.last (.inr ⟨HRA.out,Stair.pass HCL.out (Stair.fall (fun h=>by have:=HE4.out.1 h;simp at this))⟩))))) HT3.out.bel
       | true=>
        go_wp2;go_ret;exact wldP rfl (Stair.pass HOK.out (Stair.pass HFM.out (Stair.pass HFW.out (Stair.last (.inr ⟨HRA.out,Stair.pass HCL.out (Stair.pass (HE4.out.2 (by simp)) (Stair.last rfl))⟩))))) HT3.out.bel
set_option maxRecDepth 20000 in
theorem zgz (d:WorldD) (cs:List Value) (hi:Nat) (w:World) (h:zae.rd w hi d cs) (hhi:hi≤w.heap.size) (hnm:∀ t,t<d.tapes.1→∀ i,i<(d.tapes.2 t).recs.1→((d.tapes.2 t).recs.2 i).name.size≤1048576) (hok':¬ zaq d.shape) :
 Calls Tryz.prog 66 #[.agg cs.toArray] w (zcE d w):=by
 obtain ⟨ao1,cap1,ao2,cap2,ao3,cap3,rfl,g1,g2,g3,-⟩:=zaR h;have HRD:=hid h;obtain ⟨v2,e2,⟨h2,hcp2⟩,_⟩:=g2
 cases e2
 have H2:=hid h2;have HCP:=hid hcp2;have hm2:=h2.mx;obtain ⟨_,_,e3,hm3,hc3⟩:=g3
 cases e3
 unfold maxLen at hm2 hm3;have HC3:=hid hc3;have HNM:=hid hnm;clear h h2 hcp2 hc3 g1 hnm;have T0:=zaQ w (rwW d ao1 cap1 ao2 cap2 ao3 cap3).toArray 38;have CSh:=fun w'=>zbm d.shape w';unfold zak at CSh
 go_enter Tryz.func66,Tryz.ntmps66
 go_wp2_with fail
 refine (CSh _).mono ?_;rintro e w1 ⟨x,rfl,hx,b1⟩;have T1:One w w1 (rwW d ao1 cap1 ao2 cap2 ao3 cap3).toArray 38:=T0.call b1;have HT1:=hid T1;clear b1 T0 CSh;have x1_0:w1.cell? ⟨w.heap.size,0,none⟩=some (.int .i64 (d.shape 0)):=T1.b1.cell 0;have kx1_0:=cell_regrown x1_0;have x1_1:w1.cell? ⟨w.heap.size,1,none⟩=some (.int .i64 (d.shape 1)):=T1.b1.cell 1;have kx1_1:=cell_regrown x1_1;have x1_2:w1.cell? ⟨w.heap.size,2,none⟩=some (.int .i64 (d.shape 2)):=T1.b1.cell 2;have kx1_2:=cell_regrown x1_2;have x1_3:w1.cell? ⟨w.heap.size,3,none⟩=some (.int .i64 (d.shape 3)):=T1.b1.cell 3;have kx1_3:=cell_regrown x1_3;have x1_4:w1.cell? ⟨w.heap.size,4,none⟩=some (.int .i64 (d.shape 4)):=T1.b1.cell 4;have kx1_4:=cell_regrown x1_4;have x1_5:w1.cell? ⟨w.heap.size,5,none⟩=some (.int .i64 (d.shape 5)):=T1.b1.cell 5;have kx1_5:=cell_regrown x1_5;have x1_6:w1.cell? ⟨w.heap.size,6,none⟩=some (.int .i64 (d.shape 6)):=T1.b1.cell 6;have kx1_6:=cell_regrown x1_6;have x1_7:w1.cell? ⟨w.heap.size,7,none⟩=some (.int .i64 (d.shape 7)):=T1.b1.cell 7;have kx1_7:=cell_regrown x1_7;have x1_8:w1.cell? ⟨w.heap.size,8,none⟩=some (.int .i64 (d.shape 8)):=T1.b1.cell 8;have kx1_8:=cell_regrown x1_8;have x1_9:w1.cell? ⟨w.heap.size,9,none⟩=some (.slice ao1 d.groups.1 cap1):=T1.b1.cell 9;have kx1_9:=cell_regrown x1_9;have x1_10:w1.cell? ⟨w.heap.size,10,none⟩=some (.slice ao2 d.on.1 cap2):=T1.b1.cell 10;have kx1_10:=cell_regrown x1_10;have x1_11:w1.cell? ⟨w.heap.size,11,none⟩=some (.slice ao3 d.tapes.1 cap3):=T1.b1.cell 11;have kx1_11:=cell_regrown x1_11;have x1_12:w1.cell? ⟨w.heap.size,12,none⟩=some (.int .i64 d.writes):=T1.b1.cell 12;have kx1_12:=cell_regrown x1_12;have x1_13:w1.cell? ⟨w.heap.size,13,none⟩=some (.int .i64 d.stop):=T1.b1.cell 13;have kx1_13:=cell_regrown x1_13;have x1_14:w1.cell? ⟨w.heap.size,14,none⟩=some (.bool d.down):=T1.b1.cell 14;have kx1_14:=cell_regrown x1_14;clear T1
 rcases hx with ⟨rfl,hno⟩ | ⟨rfl,hok⟩
 ·go_wp2
  go_ret;exact wldP rfl (Stair.fall hno) HT1.out.bel
 exact absurd hok hok'
theorem zeU (d:WorldD) (cs:List Value) (hi:Nat) (w:World) (h:zae.rd w hi d cs) (hhi:hi≤w.heap.size) (hnm:∀ t,t<d.tapes.1→∀ i,i<(d.tapes.2 t).recs.1→((d.tapes.2 t).recs.2 i).name.size≤1048576) :
 Calls Tryz.prog 66 #[.agg cs.toArray] w (zcE d w):=by
 by_cases h0:zaq d.shape
 ·by_cases h1:zcs d∧zbR d.on.1 d.on.2 (d.shape 0+d.shape 1-1)
  ·by_cases h2:(d.on.1:Int)≤d.shape 5∧(d.down=true→d.on.1=0)
   ·by_cases h3:d.tapes.1=2
    ·exact zgy d cs hi w h hhi hnm h0 ⟨h1.1,⟨h1.2,h2.1,h2.2⟩,h3⟩
    ·exact zgx d cs hi w h hhi hnm h0 ⟨h1.1,h1.2,h2,h3⟩
   ·exact zgw d cs hi w h hhi hnm h0 ⟨h1.1,h1.2,h2⟩
  ·exact zgv d cs hi w h hhi hnm h0 h1
 ·exact zgz d cs hi w h hhi hnm h0
theorem zh9 (v:Value) (n:Nat) (g:Nat→Int) (hi:Nat) (x:Int) (w:World) (r:RdI w hi v n g) :
 Calls Tryz.prog 116 #[v,.int .i64 x] w fun e w'=>∃ z:Int,e=.returned (.int .i64 z)∧(0≤z↔∃ t,t<n∧g t=x)∧w'=w:=by
 obtain ⟨ao,cap,rfl,hm,hc⟩:=r;unfold maxLen at hm
 go_enter Tryz.func116,Tryz.ntmps116
 go_wp2
 go_loop [8] (fun i=>∃ k:Nat,k≤n∧i=.int .i64 k∧∀ i,i<k→g i≠x) (fun i=>n-(intOf i).toNat)
 case atStart=>exact ⟨0,Nat.zero_le _,rfl,fun i hi=>by omega⟩
 case round=>
  obtain ⟨k,hk,rfl,hall⟩:=hrel;have HALL:=hid hall;clear hall
  by_cases hlt:k<n
  ·obtain ⟨b,off,rfl,hblt,hcell⟩:=hc (by omega)
   have hck:w.cell? ⟨b,off+k,none⟩=some (.int .i64 (g k)):=hcell k hlt;obtain ⟨y,hy⟩:∃ y,y=g k:=⟨_,rfl⟩;have HY:=hid hy;rw [← hy] at hck;clear hc hcell hy
   by_cases heq:x=y
   ·have HP:Hid (0≤(k:Int)↔∃ t,t<n∧g t=x):=⟨fun _=>⟨k,hlt,by rw [← HY.out,heq]⟩,fun _=>by omega⟩
    have te:(x==y)=true:=by simp [heq]
    clear heq;go_wp2;go_ret;exact ⟨_,rfl,HP.out,rfl⟩
   ·have te:(x==y)=false:=by simp [heq]
    have HN:Hid (g k≠x):=by show g k≠x;rw [← HY.out];exact fun h=>heq h.symm
    clear heq;go_wp2
    go_round
    case rel=>exact ⟨k+1,by omega,by go_num,fun i hi=>by
     by_cases c:i=k
     ·rw [c];exact HN.out
     ·exact HALL.out i (by omega)⟩
    case measure=>simp [intOf];omega
  ·obtain rfl:k=n:=by omega
   have HP:Hid (0≤(-1:Int)↔∃ t,t<k∧g t=x):=⟨fun h=>by omega,fun ⟨t,ht,he⟩=>absurd he (HALL.out t ht)⟩;clear hc;go_wp2;go_ret;exact ⟨-1,rfl,HP.out,rfl⟩
theorem zfH (v:Value) (n:Nat) (g:Nat→Int) (hi:Nat) (x:Int) (w:World) (r:RdI w hi v n g) :
 Calls Tryz.prog 76 #[v,.int .i64 x] w (zbK (∃ t,t<n∧g t=x) w):=by
 have C:=zh9 v n g hi x w r;obtain ⟨ao,cap,rfl,hm,hc⟩:=r;clear hc hm;have HI:=hid C;clear C;obtain ⟨P,hP⟩:∃ P:Prop,P=∃ t,t<n∧g t=x:=⟨_,rfl⟩;rw [← hP] at HI ⊢;clear hP
 go_enter Tryz.func76,Tryz.ntmps76
 go_wp2_with fail
 refine HI.out.mono ?_;rintro e w1 ⟨z,rfl,hz,hw1⟩;obtain rfl:=hw1.symm;have HZ:=hid hz;clear hz HI
 by_cases h0:0≤z
 ·have HP:Hid P:=HZ.out.mp h0
  go_wp2;go_ret;exact zaI rfl HP.out (Below.refl _ _)
 ·have HP:Hid (¬ P):=fun h=>h0 (HZ.out.mpr h)
  have td:decide (0≤z)=false:=by simp;omega
  clear h0;go_wp2;go_ret;exact zat rfl HP.out (Below.refl _ _)
end Go.Proofs.YtonemlgejkapbaaGreat
namespace Go.Proofs.YtonemlgejkapbaaGreat
open Go.RowKit
theorem Box.allocd {w:World} {b:Nat} {cs:Array Value} {t:TypeId} (h:Box w b cs t) (o:Obj):Box (w.alloc o) b cs t:=(Below.heap_alloc w o b h.lt).trans h
end Go.Proofs.YtonemlgejkapbaaGreat
namespace Go.Proofs.YtonemlgejkapbaaGreat
open Go.RowKit F256
theorem zgA (x a b:Int) (w:World) :
 Calls Tryz.prog 160 #[.int .i64 x,.int .i64 a,.int .i64 b] w fun e w'=>e=.returned (.int .i64 (max a (min x b)))∧w'=w:=by
 go_enter Tryz.func160,Tryz.ntmps160
 go_wp2;go_ret;exact ⟨rfl,rfl⟩
def zaF (x a b:Int):Int:=max a (min x b)
theorem zbD (x a b:Int) (h:a≤b):x=zaF x a b↔a≤x∧x≤b:=by
 unfold zaF;omega
theorem zbE (x a b:Int) (w:World) :
 Calls Tryz.prog 160 #[.int .i64 x,.int .i64 a,.int .i64 b] w fun e w'=>e=.returned (.int .i64 (zaF x a b))∧w'=w:=zgA x a b w
set_option maxRecDepth 20000 in
theorem zdy (a0 a1 a2 a3 a4 a5 a6 a7 a8:Int) (w:World) :
 Calls Tryz.prog 138 #[.agg #[.int .i64 a0,.int .i64 a1,.int .i64 a2,.int .i64 a3,.int .i64 a4,.int .i64 a5,.int .i64 a6,.int .i64 a7,.int .i64 a8]] w fun e w'=>e=.returned (.agg #[.int .i64 (zaF a0 1 4),.int .i64 (zaF a1 0 2),.int .i64 (zaF a2 1 3),.int .i64 (zaF a3 0 2),.int .i64 (zaF a4 1 6),.int .i64 (zaF a5 1 6),.int .i64 (zaF a6 1 4),.int .i64 (zaF a7 1 6),.int .i64 (zaF a8 0 400)])∧Below w.heap.size w w':=by
 go_enter Tryz.func138,Tryz.ntmps138
 go_wp2_with fail
 have XA:=(zaz w #[.int .i64 a0,.int .i64 a1,.int .i64 a2,.int .i64 a3,.int .i64 a4,.int .i64 a5,.int .i64 a6,.int .i64 a7,.int .i64 a8] 34).allocd (.cells #[.int .i64 0,.int .i64 0,.int .i64 0,.int .i64 0,.int .i64 0,.int .i64 0,.int .i64 0,.int .i64 0,.int .i64 0] 34);have XZ:=zaz (w.alloc (.cells #[.int .i64 a0,.int .i64 a1,.int .i64 a2,.int .i64 a3,.int .i64 a4,.int .i64 a5,.int .i64 a6,.int .i64 a7,.int .i64 a8] 34)) #[.int .i64 0,.int .i64 0,.int .i64 0,.int .i64 0,.int .i64 0,.int .i64 0,.int .i64 0,.int .i64 0,.int .i64 0] 34
 have hz:(w.alloc (.cells #[.int .i64 a0,.int .i64 a1,.int .i64 a2,.int .i64 a3,.int .i64 a4,.int .i64 a5,.int .i64 a6,.int .i64 a7,.int .i64 a8] 34)).heap.size=w.heap.size+1:=by simp
 rw [hz] at XZ;have BA:Below w.heap.size w ((w.alloc (.cells #[.int .i64 a0,.int .i64 a1,.int .i64 a2,.int .i64 a3,.int .i64 a4,.int .i64 a5,.int .i64 a6,.int .i64 a7,.int .i64 a8] 34)).alloc (.cells #[.int .i64 0,.int .i64 0,.int .i64 0,.int .i64 0,.int .i64 0,.int .i64 0,.int .i64 0,.int .i64 0,.int .i64 0] 34)):=((Below.refl _ _).alloc (Nat.le_refl _) _).alloc (by simp) _;obtain ⟨wA,hwA⟩:∃ x,x=(w.alloc (.cells #[.int .i64 a0,.int .i64 a1,.int .i64 a2,.int .i64 a3,.int .i64 a4,.int .i64 a5,.int .i64 a6,.int .i64 a7,.int .i64 a8] 34)).alloc (.cells #[.int .i64 0,.int .i64 0,.int .i64 0,.int .i64 0,.int .i64 0,.int .i64 0,.int .i64 0,.int .i64 0,.int .i64 0] 34):=⟨_,rfl⟩;rw [← hwA] at XA XZ BA ⊢;clear hwA hz;refine wp_region_still_tail 28 (by kernel_rfl) (by kernel_rfl) ?_;have XA':Box { wA with drawn:=wA.drawn+1 } w.heap.size #[.int .i64 a0,.int .i64 a1,.int .i64 a2,.int .i64 a3,.int .i64 a4,.int .i64 a5,.int .i64 a6,.int .i64 a7,.int .i64 a8] 34:=XA;have XZ':Box { wA with drawn:=wA.drawn+1 } (w.heap.size+1) #[.int .i64 0,.int .i64 0,.int .i64 0,.int .i64 0,.int .i64 0,.int .i64 0,.int .i64 0,.int .i64 0,.int .i64 0] 34:=XZ;have BA':Below w.heap.size w { wA with drawn:=wA.drawn+1 }:=⟨BA.os,BA.tape,BA.output,BA.size,BA.block⟩;obtain ⟨wB,hwB⟩:∃ x:World,x={ wA with drawn:=wA.drawn+1 }:=⟨_,rfl⟩;rw [← hwB] at XA' XZ' BA' ⊢;clear XA XZ BA hwB;obtain ⟨x0,x1,x2,x3,x4,x5,x6,x7,x8⟩:=box9 XA';obtain ⟨y0,y1,y2,y3,y4,y5,y6,y7,y8⟩:=box9 XZ'
 simp only [List.take_succ_cons,List.take_zero,List.drop_succ_cons,List.drop_zero]
 still_step
 still_step
 still_call (zbE _ _ _ _)
 still_step
 still_step
 still_call (zbE _ _ _ _)
 still_step
 still_step
 still_call (zbE _ _ _ _)
 still_step
 still_step
 still_call (zbE _ _ _ _)
 still_step
 still_step
 still_call (zbE _ _ _ _)
 still_step
 still_step
 still_call (zbE _ _ _ _)
 still_step
 still_step
 still_call (zbE _ _ _ _)
 still_step
 still_step
 still_call (zbE _ _ _ _)
 still_step
 still_step
 still_call (zbE _ _ _ _)
 still_step
 refine wpStill_nil ?_;have z0:wB.frozen? ⟨w.heap.size+1,0,none⟩=false:=XZ'.frozen 0;have z1:wB.frozen? ⟨w.heap.size+1,1,none⟩=false:=XZ'.frozen 1;have z2:wB.frozen? ⟨w.heap.size+1,2,none⟩=false:=XZ'.frozen 2;have z3:wB.frozen? ⟨w.heap.size+1,3,none⟩=false:=XZ'.frozen 3;have z4:wB.frozen? ⟨w.heap.size+1,4,none⟩=false:=XZ'.frozen 4;have z5:wB.frozen? ⟨w.heap.size+1,5,none⟩=false:=XZ'.frozen 5;have z6:wB.frozen? ⟨w.heap.size+1,6,none⟩=false:=XZ'.frozen 6;have z7:wB.frozen? ⟨w.heap.size+1,7,none⟩=false:=XZ'.frozen 7;have z8:wB.frozen? ⟨w.heap.size+1,8,none⟩=false:=XZ'.frozen 8;go_wp2;refine bodyPost_ret (v:=.agg #[.int .i64 (zaF a0 1 4),.int .i64 (zaF a1 0 2),.int .i64 (zaF a2 1 3),.int .i64 (zaF a3 0 2),.int .i64 (zaF a4 1 6),.int .i64 (zaF a5 1 6),.int .i64 (zaF a6 1 4),.int .i64 (zaF a7 1 6),.int .i64 (zaF a8 0 400)]) (by simp [results,Tryz.results138,go_sem,y0,y1,y2,y3,y4,y5,y6,y7,y8]) rfl ⟨rfl,?_⟩;exact (((((((((BA'.setCell (Nat.le_succ _) _).setCell (Nat.le_succ _) _).setCell (Nat.le_succ _) _).setCell (Nat.le_succ _) _).setCell (Nat.le_succ _) _).setCell (Nat.le_succ _) _).setCell (Nat.le_succ _) _).setCell (Nat.le_succ _) _).setCell (Nat.le_succ _) _)
theorem zfI (a0 a1 a2 a3 a4 a5 a6 a7 a8:Int) (w:World):(Op.equalIn 10000 34 (.agg #[.int .i64 a0,.int .i64 a1,.int .i64 a2,.int .i64 a3,.int .i64 a4,.int .i64 a5,.int .i64 a6,.int .i64 a7,.int .i64 a8]) (.agg #[.int .i64 a0,.int .i64 a1,.int .i64 a2,.int .i64 a3,.int .i64 a4,.int .i64 a5,.int .i64 a6,.int .i64 a7,.int .i64 a8])).run Tryz.prog w=.ok true w:=by
 have u3:=Tryz.underlying2;rw [show (10000:Nat)=9999+1 from rfl,run_equalIn_agg w 9999 34 _ _ (by kernel_rfl) (by kernel_rfl)]
 simp only [Program.fieldsOf,Tryz.underlying34]
 go_simp
theorem zgB (a0 a1 a2 a3 a4 a5 a6 a7 a8 b0 b1 b2 b3 b4 b5 b6 b7 b8:Int) (h:¬ (a0=b0∧a1=b1∧a2=b2∧a3=b3∧a4=b4∧a5=b5∧a6=b6∧a7=b7∧a8=b8)) (w:World):(Op.equalIn 10000 34 (.agg #[.int .i64 a0,.int .i64 a1,.int .i64 a2,.int .i64 a3,.int .i64 a4,.int .i64 a5,.int .i64 a6,.int .i64 a7,.int .i64 a8]) (.agg #[.int .i64 b0,.int .i64 b1,.int .i64 b2,.int .i64 b3,.int .i64 b4,.int .i64 b5,.int .i64 b6,.int .i64 b7,.int .i64 b8])).run Tryz.prog w=.ok false w:=by
 have u3:=Tryz.underlying2;rw [show (10000:Nat)=9999+1 from rfl,run_equalIn_agg w 9999 34 _ _ (by kernel_rfl) (by kernel_rfl)]
 simp only [Program.fieldsOf,Tryz.underlying34]
 have H:=hid h;clear h;go_simp;exact fun h0 h1 h2 h3 h4 h5 h6 h7 h8=>H.out ⟨h0,h1,h2,h3,h4,h5,h6,h7,h8⟩
theorem ziU (s:Nat→Int):zaq s↔s 0=zaF (s 0) 1 4∧s 1=zaF (s 1) 0 2∧s 2=zaF (s 2) 1 3∧s 3=zaF (s 3) 0 2∧s 4=zaF (s 4) 1 6∧s 5=zaF (s 5) 1 6∧s 6=zaF (s 6) 1 4∧s 7=zaF (s 7) 1 6∧s 8=zaF (s 8) 0 400:=by
 unfold zaq Shp3 Shp;rw [zbD (s 0) 1 4 (by omega),zbD (s 1) 0 2 (by omega),zbD (s 2) 1 3 (by omega),zbD (s 3) 0 2 (by omega),zbD (s 4) 1 6 (by omega),zbD (s 5) 1 6 (by omega),zbD (s 6) 1 4 (by omega),zbD (s 7) 1 6 (by omega),zbD (s 8) 0 400 (by omega)];omega
theorem zck (s:Nat→Int) (w:World) :
 Calls Tryz.prog 96 #[zak s] w fun e w'=>∃ x,e=.returned (.int .i64 x)∧ziH s x∧Below w.heap.size w w':=by
 have HK:Hid (zaq s↔s 0=zaF (s 0) 1 4∧s 1=zaF (s 1) 0 2∧s 2=zaF (s 2) 1 3∧s 3=zaF (s 3) 0 2∧s 4=zaF (s 4) 1 6∧s 5=zaF (s 5) 1 6∧s 6=zaF (s 6) 1 4∧s 7=zaF (s 7) 1 6∧s 8=zaF (s 8) 0 400):=ziU s;unfold zak;obtain ⟨a0,h0⟩:∃ a,a=s 0:=⟨_,rfl⟩;obtain ⟨a1,h1⟩:∃ a,a=s 1:=⟨_,rfl⟩;obtain ⟨a2,h2⟩:∃ a,a=s 2:=⟨_,rfl⟩;obtain ⟨a3,h3⟩:∃ a,a=s 3:=⟨_,rfl⟩;obtain ⟨a4,h4⟩:∃ a,a=s 4:=⟨_,rfl⟩;obtain ⟨a5,h5⟩:∃ a,a=s 5:=⟨_,rfl⟩;obtain ⟨a6,h6⟩:∃ a,a=s 6:=⟨_,rfl⟩;obtain ⟨a7,h7⟩:∃ a,a=s 7:=⟨_,rfl⟩;obtain ⟨a8,h8⟩:∃ a,a=s 8:=⟨_,rfl⟩;rw [← h0,← h1,← h2,← h3,← h4,← h5,← h6,← h7,← h8]
 have HK2:Hid (zaq s↔a0=zaF a0 1 4∧a1=zaF a1 0 2∧a2=zaF a2 1 3∧a3=zaF a3 0 2∧a4=zaF a4 1 6∧a5=zaF a5 1 6∧a6=zaF a6 1 4∧a7=zaF a7 1 6∧a8=zaF a8 0 400):=by
  show zaq s↔_
  rw [h0,h1,h2,h3,h4,h5,h6,h7,h8];exact HK.out
 clear HK h0 h1 h2 h3 h4 h5 h6 h7 h8;have CN:=zdy a0 a1 a2 a3 a4 a5 a6 a7 a8;have XA:=zaz w #[.int .i64 a0,.int .i64 a1,.int .i64 a2,.int .i64 a3,.int .i64 a4,.int .i64 a5,.int .i64 a6,.int .i64 a7,.int .i64 a8] 34;obtain ⟨x0,x1,x2,x3,x4,x5,x6,x7,x8⟩:=box9 XA;have HX:=hid XA;have HB:Hid (Below w.heap.size w (w.alloc (.cells #[.int .i64 a0,.int .i64 a1,.int .i64 a2,.int .i64 a3,.int .i64 a4,.int .i64 a5,.int .i64 a6,.int .i64 a7,.int .i64 a8] 34))):=bnew (Below.refl _ _);obtain ⟨wA,hwA⟩:∃ x,x=w.alloc (.cells #[.int .i64 a0,.int .i64 a1,.int .i64 a2,.int .i64 a3,.int .i64 a4,.int .i64 a5,.int .i64 a6,.int .i64 a7,.int .i64 a8] 34):=⟨_,rfl⟩;rw [← hwA] at x0 x1 x2 x3 x4 x5 x6 x7 x8 HX HB;clear XA
 by_cases ok:zaq s
 ·have HO:=hid ok
  obtain ⟨e0,e1,e2,e3,e4,e5,e6,e7,e8⟩:=HK2.out.mp ok;rw [← e0,← e1,← e2,← e3,← e4,← e5,← e6,← e7,← e8] at CN;have heq:=zfI a0 a1 a2 a3 a4 a5 a6 a7 a8;clear e0 e1 e2 e3 e4 e5 e6 e7 e8 ok
  go_enter Tryz.func96,Tryz.ntmps96
  go_wp2_with fail
  rw [← hwA];clear hwA
  go_region_with (go_at_call 138;refine (CN _).mono ?_;rintro ee w2 ⟨rfl,hb2⟩;have hB2:Below wA.heap.size wA w2:=⟨hb2.os,hb2.tape,hb2.output,hb2.size,hb2.block⟩;obtain ⟨y0,y1,y2,y3,y4,y5,y6,y7,y8⟩:=box9 (HX.out.below hB2 HX.out.lt))
  all_goals
   go_wp2;go_ret;exact ⟨0,rfl,.inr ⟨rfl,HO.out⟩,HB.out.trans (hB2.mono HB.out.size)⟩
 ·have HO:=hid ok
  have hno:¬ (a0=zaF a0 1 4∧a1=zaF a1 0 2∧a2=zaF a2 1 3∧a3=zaF a3 0 2∧a4=zaF a4 1 6∧a5=zaF a5 1 6∧a6=zaF a6 1 4∧a7=zaF a7 1 6∧a8=zaF a8 0 400):=fun h=>ok (HK2.out.mpr h);have heq:=zgB a0 a1 a2 a3 a4 a5 a6 a7 a8 (zaF a0 1 4) (zaF a1 0 2) (zaF a2 1 3) (zaF a3 0 2) (zaF a4 1 6) (zaF a5 1 6) (zaF a6 1 4) (zaF a7 1 6) (zaF a8 0 400) hno;clear hno ok
  go_enter Tryz.func96,Tryz.ntmps96
  go_wp2_with fail
  rw [← hwA];clear hwA
  go_region_with (go_at_call 138;refine (CN _).mono ?_;rintro ee w2 ⟨rfl,hb2⟩;have hB2:Below wA.heap.size wA w2:=⟨hb2.os,hb2.tape,hb2.output,hb2.size,hb2.block⟩;obtain ⟨y0,y1,y2,y3,y4,y5,y6,y7,y8⟩:=box9 (HX.out.below hB2 HX.out.lt))
  all_goals
   go_wp2;go_ret;exact ⟨3,rfl,.inl ⟨rfl,HO.out⟩,HB.out.trans (hB2.mono HB.out.size)⟩
theorem zc9 (s:Nat→Int) (h1:1≤s 2) (h2:s 2≤1000) (w:World) :
 Calls Tryz.prog 162 #[zak s] w fun e w'=>e=.returned (.int .i64 (s 2*4))∧Below w.heap.size w w':=by
 unfold zak;obtain ⟨a2,h0⟩:∃ a,a=s 2:=⟨_,rfl⟩;rw [← h0] at h1 h2 ⊢;clear h0;have B0:Below w.heap.size w (w.alloc (.cells #[.int .i64 (s 0),.int .i64 (s 1),.int .i64 a2,.int .i64 (s 3),.int .i64 (s 4),.int .i64 (s 5),.int .i64 (s 6),.int .i64 (s 7),.int .i64 (s 8)] 34)):=bnew (Below.refl _ _)
 go_enter Tryz.func162,Tryz.ntmps162
 go_wp2;go_ret;exact ⟨rfl,B0⟩
theorem zeV (s:Nat→Int) (l:Int) (w:World) :
 Calls Tryz.prog 161 #[zak s,.int .i64 l] w fun e w'=>∃ x c,e=.returned (intR c x)∧ziS s l x c∧Below w.heap.size w w':=by
 unfold zak
 go_enter Tryz.func161,Tryz.ntmps161
 go_wp2_with fail
 refine (zck s _).mono ?_;rintro e w1 ⟨x,rfl,hx,B1'⟩;obtain ⟨X1,X2,B1,z1⟩:=ziR B1';obtain ⟨x0,x1,x2,x3,x4,x5,x6,x7,x8⟩:=box9 X1;obtain ⟨y0,y1,y2,y3⟩:=zdF X2;have HX:=hid X2;have HX1:=hid X1;clear B1' X1 X2
 rcases hx with ⟨rfl,hx⟩ | ⟨rfl,hx⟩
 ·have HN:=hid hx
  clear hx;go_wp2;exact bodyPost_ret (v:=intR 3 0) (by simp [results,Tryz.results161,go_sem,intR,y0,y1]) rfl ⟨0,3,rfl,.inl ⟨HN.out,rfl,rfl⟩,(B1.setCell (Nat.le_succ _) _).setCell (Nat.le_succ _) _⟩
 ·have HO:=hid hx
  have HD:Hid (1≤s 2∧s 2≤1000):=by show 1≤s 2∧s 2≤1000;have:=hx.2.1;unfold Shp at this;omega
  clear hx;have CL:=zc9 s HD.out.1 HD.out.2;unfold zak at CL;have HM:Hid (∀ m,m=(l+s 2*4-1)/(s 2*4)→1≤l→l≤3*(s 2*4)→ziS s l m 0):=fun m hm h1 h2=>.inr (.inr (.inr ⟨HO.out,h1,h2,rfl,hm⟩));have HM2:Hid (1≤l→3*(s 2*4)<l→ziS s l 0 2):=fun h1 h2=>.inr (.inr (.inl ⟨HO.out,h1,h2,rfl,rfl⟩));obtain ⟨S,hS⟩:∃ S,S=s 2*4:=⟨_,rfl⟩;rw [← hS] at CL HM HM2
  have q1:4≤S:=by have:=HD.out.1;omega
  have q2:S≤4000:=by have:=HD.out.2;omega
  clear hS
  by_cases c1:l<1
  ·go_wp2
   exact bodyPost_ret (v:=intR 6 0) (by simp [results,Tryz.results161,go_sem,intR,y0,y1]) rfl ⟨0,6,rfl,.inr (.inl ⟨HO.out,c1,rfl,rfl⟩),(B1.setCell (Nat.le_succ _) _).setCell (Nat.le_succ _) _⟩
  ·go_wp2_with fail
   refine (CL _).mono ?_;rintro e w2 ⟨rfl,B2⟩;have z2:=B2.size;have B12:Below w.heap.size w w2:=B1.trans (B2.mono B1.size);have HX2:Hid (Box w2 (w.heap.size+1) #[.int .i64 0,.int .i64 0] 177):=HX.out.below B2 z1;have HY2:Hid (Box w2 w.heap.size (rwS s).toArray 34):=HX1.out.below B2 (by omega);clear x0 x1 x2 x3 x4 x5 x6 x7 x8 y0 y1 y2 y3 B2 HX HX1;obtain ⟨y0,y1,y2,y3⟩:=zdF HX2.out;obtain ⟨x0,x1,x2,x3,x4,x5,x6,x7,x8⟩:=box9 HY2.out
   by_cases c2:3*S<l
   ·have t2:decide (3*S<l)=true:=by simp;omega
    go_wp2;exact bodyPost_ret (v:=intR 2 0) (by simp [results,Tryz.results161,go_sem,intR,y0,y1]) rfl ⟨0,2,rfl,HM2.out (by omega) c2,(B12.setCell (Nat.le_succ _) _).setCell (Nat.le_succ _) _⟩
   ·have t2:decide (3*S<l)=false:=by simp;omega
    have q3:0≤l+S-1:=by omega
    go_wp2_with fail
    have K0:Hid (Below w2.heap.size w2 w2):=Below.refl _ _
    go_region_with (go_at_call 162;refine (CL _).mono ?_;rintro ee w3 ⟨rfl,hb3⟩;(first | (have hB2:Below w2.heap.size w2 w3:=hB.trans ((⟨hb3.os,hb3.tape,hb3.output,hb3.size,hb3.block⟩:Below _ _ _).mono hB.size);clear hb3;obtain ⟨v0,v1,v2,v3⟩:=zdF (HX2.out.below hB2 (by omega));obtain ⟨u0,u1,u2,u3,u4,u5,u6,u7,u8⟩:=box9 (HY2.out.below hB2 (by omega))) | (have hB:Below w2.heap.size w2 w3:=⟨hb3.os,hb3.tape,hb3.output,hb3.size,hb3.block⟩;clear hb3;obtain ⟨u0,u1,u2,u3,u4,u5,u6,u7,u8⟩:=box9 (HY2.out.below hB (by omega)))))
    all_goals
     have B4:Below w.heap.size w w3:=B12.trans (hB2.mono B12.size);go_wp2;exact bodyPost_ret (v:=intR 0 ((l+S-1)/S)) (by simp [results,Tryz.results161,go_sem,intR,v0,v1]) rfl ⟨(l+S-1)/S,0,rfl,HM.out _ rfl (by omega) (by omega),(B4.setCell (Nat.le_succ _) _).setCell (Nat.le_succ _) _⟩
theorem zaV {x a b:Int} {t:Bool} (hab:a≤b) (ht:t=true↔InP x a b) (w:World) :
 Calls Tryz.prog 74 #[.int .i64 x,.int .i64 a,.int .i64 b] w fun e w'=>e=.returned (.bool t)∧w'=w:=by
 by_cases h1:a≤x
 ·by_cases h2:x≤b
  ·obtain rfl:t=true:=ht.2 ⟨h1,h2⟩
   clear ht hab
   go_enter Tryz.func74,Tryz.ntmps74
   go_wp2;go_ret;exact ⟨rfl,rfl⟩
  ·obtain rfl:t=false:=by
    cases t with
    | false=>rfl
    | true=>exact absurd (ht.1 rfl).2 h2
   clear ht hab;have hd:decide (x≤b)=false:=decide_eq_false h2
   go_enter Tryz.func74,Tryz.ntmps74
   go_wp2;go_ret;exact ⟨rfl,rfl⟩
 ·obtain rfl:t=false:=by
   cases t with
   | false=>rfl
   | true=>exact absurd (ht.1 rfl).1 h1
  clear ht hab;have hd:decide (a≤x)=false:=decide_eq_false h1
  go_enter Tryz.func74,Tryz.ntmps74
  go_wp2;go_ret;exact ⟨rfl,rfl⟩
theorem zbo (s:Nat→Int) (h:zaq s) (w:World) :
 Calls Tryz.prog 115 #[zak s] w fun e w'=>e=.returned (.int .i64 (s 0+s 1))∧Below w.heap.size w w':=by
 obtain ⟨h1,h2,_⟩:=h;unfold Shp3 at h1;have B0:=(zaQ w (rwS s).toArray 34).bel;unfold zak
 have hw:-9223372036854775808≤s 0+s 1∧s 0+s 1≤9223372036854775807:=by omega
 go_enter Tryz.func115,Tryz.ntmps115
 go_wp2;go_ret;exact ⟨rfl,B0⟩
theorem zei (s:Nat→Int) (h:zaq s) (w:World) :
 Calls Tryz.prog 75 #[zak s] w fun e w'=>e=.returned (.int .i64 (s 2+s 3))∧Below w.heap.size w w':=by
 obtain ⟨h1,h2,_⟩:=h;unfold Shp at h2;have B0:=(zaQ w (rwS s).toArray 34).bel;unfold zak
 have hw:-9223372036854775808≤s 2+s 3∧s 2+s 3≤9223372036854775807:=by omega
 go_enter Tryz.func75,Tryz.ntmps75
 go_wp2;go_ret;exact ⟨rfl,B0⟩
theorem okB {s:Nat→Int} (h:zaq s):1≤s 0∧s 0≤4∧0≤s 1∧s 1≤2∧1≤s 2∧s 2≤3∧0≤s 3∧s 3≤2∧1≤s 4∧s 4≤6∧1≤s 5∧s 5≤6:=by
 obtain ⟨h1,h2,h3,h4,_⟩:=h;unfold Shp3 at h1;unfold Shp at h2;omega
theorem zfJ {s:Nat→Int} (h:zaq s) {x:Int} {t:Bool} (ht:t=true↔InP x 0 (s 0+s 1-1)) (w:World) :
 Calls Tryz.prog 73 #[zak s,.int .i64 x] w fun e w'=>e=.returned (.bool t)∧Below w.heap.size w w':=by
 have hb:=okB h;have C:=zbo s h;have CB:=fun w'=>zaV (w:=w') (show 0≤s 0+s 1-1 by omega) ht;have T0:=zaQ w (rwS s).toArray 34;unfold zak at C ⊢;clear ht h
 go_enter Tryz.func73,Tryz.ntmps73
 go_wp2_with fail
 refine (C _).mono ?_;rintro e w1 ⟨rfl,b1⟩;have HB:Hid (Below w.heap.size w w1):=(T0.call b1).bel;clear b1 T0 C
 go_wp2_with fail
 refine (CB _).mono ?_;rintro e w2 ⟨rfl,hw2⟩;obtain rfl:=hw2.symm;go_wp2;go_ret;exact ⟨rfl,HB.out⟩
theorem zeW {s:Nat→Int} (h:zaq s) {x:Int} {t:Bool} (ht:t=true↔InP x 0 (s 0-1)) (w:World) :
 Calls Tryz.prog 142 #[zak s,.int .i64 x] w fun e w'=>e=.returned (.bool t)∧Below w.heap.size w w':=by
 have hb:=okB h;have CB:=fun w'=>zaV (w:=w') (show 0≤s 0-1 by omega) ht;have HB:Hid (Below w.heap.size w (w.alloc (.cells (rwS s).toArray 34))):=(zaQ w (rwS s).toArray 34).bel;unfold zak;clear ht h
 go_enter Tryz.func142,Tryz.ntmps142
 go_wp2_with fail
 refine (CB _).mono ?_;rintro e w2 ⟨rfl,hw2⟩;obtain rfl:=hw2.symm;go_wp2;go_ret;exact ⟨rfl,HB.out⟩
theorem zia {s:Nat→Int} (h:zaq s) {x:Int} {t:Bool} (ht:t=true↔InP x 0 (s 4-1)) (w:World) :
 Calls Tryz.prog 42 #[zak s,.int .i64 x] w fun e w'=>e=.returned (.bool t)∧Below w.heap.size w w':=by
 have hb:=okB h;have CB:=fun w'=>zaV (w:=w') (show 0≤s 4-1 by omega) ht;have HB:Hid (Below w.heap.size w (w.alloc (.cells (rwS s).toArray 34))):=(zaQ w (rwS s).toArray 34).bel;unfold zak;clear ht h
 go_enter Tryz.func42,Tryz.ntmps42
 go_wp2_with fail
 refine (CB _).mono ?_;rintro e w2 ⟨rfl,hw2⟩;obtain rfl:=hw2.symm;go_wp2;go_ret;exact ⟨rfl,HB.out⟩
theorem zdX {s:Nat→Int} (h:zaq s) {ao:Option Addr} {n cap:Nat} (hn:n≤9223372036854775807) {t:Bool} (ht:((n:Int)==s 2*4)=t) (w:World) :
 Calls Tryz.prog 143 #[zak s,.slice ao n cap] w fun e w'=>e=.returned (.bool t)∧Below w.heap.size w w':=by
 have hb:=okB h;have C:=fun w'=>zc9 s (by omega) (by omega) w';have T0:=zaQ w (rwS s).toArray 34;unfold zak at C ⊢;clear h
 go_enter Tryz.func143,Tryz.ntmps143
 go_wp2_with fail
 refine (C _).mono ?_;rintro e w1 ⟨rfl,b1⟩;have HB:Hid (Below w.heap.size w w1):=(T0.call b1).bel;clear b1 T0 C;go_wp2;go_ret;exact ⟨by simp [ht],HB.out⟩
theorem zct (
 v:Value) (n:Nat) (g:Nat→Int) (hi:Nat) (bound:Int) (hb1:1≤bound) (hb2:bound≤1000000) (w:World) (r:RdI w hi v n g) (hcp:CapP v n) (hhi:hi≤w.heap.size) :
 Calls Tryz.prog 148 #[v,.int .i64 bound] w (zbK (zbR n g (bound-1)) w):=by
 have HR:=hid r;obtain ⟨ao,cap,rfl,hm,hc⟩:=r;obtain ⟨_,_,e,hcp⟩:=hcp
 cases e
 unfold maxLen at hm
 go_enter Tryz.func148,Tryz.ntmps148
 go_wp2
 go_loopw [9] (fun i wr=>∃ k:Nat,k≤n∧i=.int .i64 k∧zbR k g (bound-1)∧Below w.heap.size w wr) (fun i _=>n-(intOf i).toNat)
 case atStart=>exact ⟨0,Nat.zero_le _,rfl,fun i hi=>by omega,Below.refl _ _⟩
 case round=>
  obtain ⟨k,hk,rfl,hall,hb⟩:=hrel;have HALL:=hid hall;clear hall
  by_cases hlt:k<n
  ·obtain ⟨b,off,rfl,hblt,hcell⟩:=hc (by omega)
   have hck:wr.cell? ⟨b,off+k,none⟩=some (.int .i64 (g k)):=(hb.cell (p:=⟨b,off+k,none⟩) (by show b<w.heap.size;omega)).trans (hcell k hlt)
   have kcp:k≤cap:=by omega
   obtain ⟨t1,h1⟩:=exB (InP (g k) 0 (bound-1));obtain ⟨t2,h2⟩:=exB (∃ t,t<k∧g t=g k);have C1:=fun w'=>zaV (w:=w') (show 0≤bound-1 by omega) h1;have C2:=zbF (zfH (.slice (some ⟨b,off,none⟩) k cap) k g hi (g k) wr ((HR.out.part hk (by omega)).below hb hhi)) h2;have H1:=hid h1;have H2:=hid h2;obtain ⟨y,hy⟩:∃ y,y=g k:=⟨_,rfl⟩;have HY:=hid hy;rw [← hy] at hck C1 C2;have HB:=hid hb;clear hc hcell h1 h2 hy hb
   go_wp2_with fail
   refine (C1 _).mono ?_;rintro e w' ⟨rfl,hw'⟩;obtain rfl:=hw'.symm;clear C1
   cases t1 with
   | false=>
    go_wp2;go_ret
    exact zat rfl (fun h=>by
     have:=H1.out.2 (h k hlt).1
     simp at this) HB.out
   | true=>
    go_wp2_with fail
    refine C2.mono ?_;rintro e w2 ⟨rfl,b2⟩;have HB2:=hid (HB.out.trans (b2.mono HB.out.size));clear b2 C2
    cases t2 with
    | true=>
     go_wp2;go_ret
     exact zat rfl (fun h=>by
      obtain ⟨t,ht,e⟩:=H2.out.1 (by simp)
      exact (h k hlt).2 t ht e) HB2.out
    | false=>
     go_wp2
     go_roundw
     case rel=>exact ⟨k+1,by omega,by go_num,fun i hi=>by
      by_cases c:i=k
      ·subst c
       exact ⟨H1.out.1 (by simp),fun t ht e=>by
        have:=H2.out.2 ⟨t,ht,e⟩
        simp at this⟩
      ·exact HALL.out i (by omega),HB2.out⟩
     case measure=>simp [intOf];omega
  ·obtain rfl:k=n:=by omega
   go_wp2;go_ret;exact zaI rfl HALL.out hb
theorem zeX (b:BlockD) (ao:Option Addr) (cap:Nat) (w:World) :
 Calls Tryz.prog 43 #[.agg #[.int .i64 b.stamp,.slice ao b.bytes.1 cap]] w (zbK (zcS b) w):=by
 obtain ⟨t1,h1⟩:=exB (InP b.stamp 0 1000000000);obtain ⟨b2,h2⟩:∃ x,((b.bytes.1:Int)==4)=x:=⟨_,rfl⟩
 have HE:Hid (zcS b↔(t1=true∧b2=true)):=by
  show zcS b↔_
  rw [h1,← h2];unfold zcS
  simp
  intro _;omega
 have C1:=fun w'=>zaV (w:=w') (show (0:Int)≤1000000000 by omega) h1;have HB:Hid (Below w.heap.size w (w.alloc (.cells #[.int .i64 b.stamp,.slice ao b.bytes.1 cap] 43))):=(Below.refl _ _).alloc (Nat.le_refl _) _;clear h1
 go_enter Tryz.func43,Tryz.ntmps43
 go_wp2_with fail
 refine (C1 _).mono ?_;rintro e w' ⟨rfl,hw'⟩;obtain rfl:=hw'.symm;clear C1
 cases t1 with
 | false=>
  go_wp2;go_ret;exact zat rfl (fun h=>by have:=HE.out.1 h;simp at this) HB.out
 | true=>
  cases b2 with
  | false=>
   go_wp2;go_ret;exact zat rfl (fun h=>by have:=HE.out.1 h;simp at this) HB.out
  | true=>
   go_wp2;go_ret;exact zaI rfl (HE.out.2 (by simp)) HB.out
theorem zeY (s:Nat→Int) (hs:zaq s) (p:Nat×(Nat→BlockD)) (t:TypeId) (v:Value) (hi:Nat) (w:World) (h:(zah.slice t).rd w hi p [v]) (hhi:hi≤w.heap.size) :
 Calls Tryz.prog 147 #[zak s,v] w (zbK (zdP s p) w):=by
 obtain ⟨ao,cap,e,hm,hc⟩:=h
 cases e
 unfold maxLen at hm;have HC:=hid hc;have HT0:Hid (One w (w.alloc (.cells (rwS s).toArray 34)) (rwS s).toArray 34):=zaQ w (rwS s).toArray 34;clear hc;unfold zak
 go_enter Tryz.func147,Tryz.ntmps147
 by_cases hl:(p.1:Int)=s 4
 ·have hne:((p.1:Int) != s 4)=false:=by simpa using hl
  have HL:=hid hl;clear hl;go_wp2
  go_loopw [14] (fun i wr=>∃ k:Nat,k≤p.1∧i=.int .i64 k∧(∀ i,i<k→zcS (p.2 i))∧Below w.heap.size w wr) (fun i _=>p.1-(intOf i).toNat)
  case atStart=>exact ⟨0,Nat.zero_le _,rfl,fun i hi=>by omega,HT0.out.bel⟩
  case round=>
   obtain ⟨k,hk,rfl,hal,hb⟩:=hrel;have HAL:=hid hal;have HB:=hid hb;clear hal
   by_cases hlt:k<p.1
   ·obtain ⟨b,off,he,hbl,hel⟩:=HC.out (by omega)
    subst he;obtain ⟨ck,hrk,hcell⟩:=zas (t:=0) hel hb hhi hbl hlt;obtain ⟨ao1,cap1,rfl,-⟩:=zba hrk;have c0:wr.cell? ⟨b,off+k*2,none⟩=some (.int .i64 (p.2 k).stamp):=hcell 0 (by decide);have c1:wr.cell? ⟨b,off+k*2+1,none⟩=some (.slice ao1 (p.2 k).bytes.1 cap1):=hcell 1 (by decide);have C:=fun w'=>zeX (p.2 k) ao1 cap1 w';clear hel hcell hrk hb
    go_wp2_with fail
    refine (C _).mono ?_;rintro e w2 ⟨t2,rfl,ht2,b2⟩;have HB2:Hid (Below w.heap.size w w2):=HB.out.trans ((bnew b2).mono HB.out.size);have HT2:=hid ht2;clear C b2 ht2
    cases t2 with
    | false=>
     go_wp2;go_ret;exact zat rfl (fun h=>by have:=HT2.out.2 (h.2 k hlt);simp at this) HB2.out
    | true=>
     go_wp2
     go_roundw
     case rel=>exact ⟨k+1,by omega,by go_num,fun i hi=>by
      by_cases c:i=k
      ·subst c;exact HT2.out.1 (by simp)
      ·exact HAL.out i (by omega),HB2.out⟩
     case measure=>simp [intOf];omega
   ·obtain rfl:k=p.1:=by omega
    go_wp2;go_ret;exact zaI rfl ⟨HL.out,HAL.out⟩ hb
 ·have hne:((p.1:Int) != s 4)=true:=by simpa using hl
  have HN:=hid hl;clear hl;go_wp2;go_ret;exact zat rfl (fun h=>HN.out h.1) HT0.out.bel
theorem zfK (wp:Bool) (n:Nat) (hn:n≤9223372036854775807) (ao:Option Addr) (cap:Nat) (w:World) :
 Calls Tryz.prog 112 #[.agg #[.bool wp,.slice ao n cap]] w (zbK (200<n) w):=by
 obtain ⟨P,hP⟩:∃ P:Prop,P=(200<n):=⟨_,rfl⟩;have HB:Hid (Below w.heap.size w (w.alloc (.cells #[.bool wp,.slice ao n cap] 100))):=(Below.refl _ _).alloc (Nat.le_refl _) _;have HP:=hid hP;rw [← hP];clear hP
 by_cases h:200<n
 ·have h1:decide (200<(n:Int))=true:=by simp;omega
  go_enter Tryz.func112,Tryz.ntmps112
  go_wp2;go_ret;exact zaI (by simp [h1]) (by rw [HP.out];exact h) HB.out
 ·have h1:decide (200<(n:Int))=false:=by simp;omega
  go_enter Tryz.func112,Tryz.ntmps112
  go_wp2;go_ret;exact zat (by simp [h1]) (by rw [HP.out];exact h) HB.out
theorem zeZ (wp:Bool) (n:Nat) (hn:n≤9223372036854775807) (ao:Option Addr) (cap:Nat) (w:World) :
 Calls Tryz.prog 114 #[.agg #[.bool wp,.slice ao n cap]] w (zbK (wp=true∧0<n) w):=by
 obtain ⟨P,hP⟩:∃ P:Prop,P=(wp=true∧0<n):=⟨_,rfl⟩;have HB:Hid (Below w.heap.size w (w.alloc (.cells #[.bool wp,.slice ao n cap] 100))):=(Below.refl _ _).alloc (Nat.le_refl _) _;have HP:=hid hP;rw [← hP];clear hP
 cases wp with
 | false=>
  go_enter Tryz.func114,Tryz.ntmps114
  go_wp2;go_ret;exact zat rfl (by rw [HP.out];simp) HB.out
 | true=>
  by_cases h:0<n
  ·have h1:decide (0<(n:Int))=true:=by simp;omega
   go_enter Tryz.func114,Tryz.ntmps114
   go_wp2;go_ret;exact zaI (by simp [h]) (by rw [HP.out];exact ⟨by simp,h⟩) HB.out
  ·have h1:decide (0<(n:Int))=false:=by simp;omega
   go_enter Tryz.func114,Tryz.ntmps114
   go_wp2;go_ret;exact zat (by simp [h]) (by rw [HP.out];exact fun x=>h x.2) HB.out
def zbw (p:Nat×(Nat→TapeD)):Prop:=∃ t,t<p.1∧200<(p.2 t).recs.1
def zaX (p:Nat×(Nat→TapeD)):Prop:=∃ t,t<p.1∧((p.2 t).wiped=true∧0<(p.2 t).recs.1)
theorem zej (p:Nat×(Nat→TapeD)) (t:TypeId) (v:Value) (hi:Nat) (w:World) (h:(zag.slice t).rd w hi p [v]) (hhi:hi≤w.heap.size) :
 Calls Tryz.prog 149 #[v,.func (.func 112) #[] #[]] w fun e w'=>∃ z:Int,e=.returned (.int .i64 z)∧(0≤z↔zbw p)∧Below w.heap.size w w':=by
 obtain ⟨ao,cap,e,hm,hc⟩:=h
 cases e
 unfold maxLen at hm;have HC:=hid hc;clear hc
 go_enter Tryz.func149,Tryz.ntmps149
 go_wp2
 go_loopw [8] (fun i wr=>∃ k:Nat,k≤p.1∧i=.int .i64 k∧(∀ i,i<k→¬ (200<(p.2 i).recs.1))∧Below w.heap.size w wr) (fun i _=>p.1-(intOf i).toNat)
 case atStart=>exact ⟨0,Nat.zero_le _,rfl,fun i hi=>by omega,Below.refl _ _⟩
 case round=>
  obtain ⟨k,hk,rfl,hal,hb⟩:=hrel;have HAL:=hid hal;have HB:=hid hb;clear hal
  by_cases hlt:k<p.1
  ·obtain ⟨b,off,he,hbl,hel⟩:=HC.out (by omega)
   subst he;obtain ⟨ck,hrk,hcell⟩:=zas (t:=0) hel hb hhi hbl hlt;obtain ⟨ao1,cap1,rfl,g1⟩:=za1 hrk
   have hm1:(p.2 k).recs.1≤maxLen:=by
    obtain ⟨_,_,_,h,_⟩:=g1;exact h
   unfold maxLen at hm1;have c0:wr.cell? ⟨b,off+k*2,none⟩=some (.bool (p.2 k).wiped):=hcell 0 (by decide);have c1:wr.cell? ⟨b,off+k*2+1,none⟩=some (.slice ao1 (p.2 k).recs.1 cap1):=hcell 1 (by decide);have C:=fun w'=>zfK (p.2 k).wiped (p.2 k).recs.1 (by omega) ao1 cap1 w';clear hel hcell hrk hb g1
   go_wp2_with fail
   refine (C _).mono ?_;rintro e w2 ⟨t2,rfl,ht2,b2⟩;have HB2:=hid (HB.out.trans (b2.mono HB.out.size));have HT2:=hid ht2;clear C b2 ht2
   cases t2 with
   | true=>
    have HP:Hid (0≤(k:Int)↔zbw p):=⟨fun _=>⟨k,hlt,HT2.out.1 rfl⟩,fun _=>by omega⟩;go_wp2;go_ret;exact ⟨_,rfl,HP.out,HB2.out⟩
   | false=>
    go_wp2
    go_roundw
    case rel=>exact ⟨k+1,by omega,by go_num,fun i hi=>by
     by_cases c:i=k
     ·subst c;exact fun h=>by have:=HT2.out.2 h;simp at this
     ·exact HAL.out i (by omega),HB2.out⟩
    case measure=>simp [intOf];omega
  ·obtain rfl:k=p.1:=by omega
   have HP:Hid (0≤(-1:Int)↔zbw p):=⟨fun h=>by omega,fun ⟨t,ht,he⟩=>absurd he (HAL.out t ht)⟩;go_wp2;go_ret;exact ⟨-1,rfl,HP.out,hb⟩
theorem zdl (p:Nat×(Nat→TapeD)) (t:TypeId) (v:Value) (hi:Nat) (w:World) (h:(zag.slice t).rd w hi p [v]) (hhi:hi≤w.heap.size) :
 Calls Tryz.prog 111 #[v,.func (.func 112) #[] #[]] w (zbK (zbw p) w):=by
 have C:=zej p t v hi w h hhi;obtain ⟨ao,cap,e,hm,hc⟩:=h
 cases e
 clear hc hm
 go_enter Tryz.func111,Tryz.ntmps111
 go_wp2_with fail
 refine C.mono ?_;rintro e w1 ⟨z,rfl,hz,b1⟩;have HZ:=hid hz;have HB:=hid b1;clear hz C b1
 by_cases h0:0≤z
 ·have HP:=hid (HZ.out.mp h0)
  go_wp2;go_ret;exact zaI rfl HP.out HB.out
 ·have HP:Hid (¬ zbw p):=fun h=>h0 (HZ.out.mpr h)
  have td:decide (0≤z)=false:=by simp;omega
  clear h0;go_wp2;go_ret;exact zat rfl HP.out HB.out
theorem zcX (p:Nat×(Nat→TapeD)) (t:TypeId) (v:Value) (hi:Nat) (w:World) (h:(zag.slice t).rd w hi p [v]) (hhi:hi≤w.heap.size) :
 Calls Tryz.prog 149 #[v,.func (.func 114) #[] #[]] w fun e w'=>∃ z:Int,e=.returned (.int .i64 z)∧(0≤z↔zaX p)∧Below w.heap.size w w':=by
 obtain ⟨ao,cap,e,hm,hc⟩:=h
 cases e
 unfold maxLen at hm;have HC:=hid hc;clear hc
 go_enter Tryz.func149,Tryz.ntmps149
 go_wp2
 go_loopw [8] (fun i wr=>∃ k:Nat,k≤p.1∧i=.int .i64 k∧(∀ i,i<k→¬ ((p.2 i).wiped=true∧0<(p.2 i).recs.1))∧Below w.heap.size w wr) (fun i _=>p.1-(intOf i).toNat)
 case atStart=>exact ⟨0,Nat.zero_le _,rfl,fun i hi=>by omega,Below.refl _ _⟩
 case round=>
  obtain ⟨k,hk,rfl,hal,hb⟩:=hrel;have HAL:=hid hal;have HB:=hid hb;clear hal
  by_cases hlt:k<p.1
  ·obtain ⟨b,off,he,hbl,hel⟩:=HC.out (by omega)
   subst he;obtain ⟨ck,hrk,hcell⟩:=zas (t:=0) hel hb hhi hbl hlt;obtain ⟨ao1,cap1,rfl,g1⟩:=za1 hrk
   have hm1:(p.2 k).recs.1≤maxLen:=by
    obtain ⟨_,_,_,h,_⟩:=g1;exact h
   unfold maxLen at hm1;have c0:wr.cell? ⟨b,off+k*2,none⟩=some (.bool (p.2 k).wiped):=hcell 0 (by decide);have c1:wr.cell? ⟨b,off+k*2+1,none⟩=some (.slice ao1 (p.2 k).recs.1 cap1):=hcell 1 (by decide);have C:=fun w'=>zeZ (p.2 k).wiped (p.2 k).recs.1 (by omega) ao1 cap1 w';clear hel hcell hrk hb g1
   go_wp2_with fail
   refine (C _).mono ?_;rintro e w2 ⟨t2,rfl,ht2,b2⟩;have HB2:=hid (HB.out.trans (b2.mono HB.out.size));have HT2:=hid ht2;clear C b2 ht2
   cases t2 with
   | true=>
    have HP:Hid (0≤(k:Int)↔zaX p):=⟨fun _=>⟨k,hlt,HT2.out.1 rfl⟩,fun _=>by omega⟩;go_wp2;go_ret;exact ⟨_,rfl,HP.out,HB2.out⟩
   | false=>
    go_wp2
    go_roundw
    case rel=>exact ⟨k+1,by omega,by go_num,fun i hi=>by
     by_cases c:i=k
     ·subst c;exact fun h=>by have:=HT2.out.2 h;simp at this
     ·exact HAL.out i (by omega),HB2.out⟩
    case measure=>simp [intOf];omega
  ·obtain rfl:k=p.1:=by omega
   have HP:Hid (0≤(-1:Int)↔zaX p):=⟨fun h=>by omega,fun ⟨t,ht,he⟩=>absurd he (HAL.out t ht)⟩;go_wp2;go_ret;exact ⟨-1,rfl,HP.out,hb⟩
theorem zcu (p:Nat×(Nat→TapeD)) (t:TypeId) (v:Value) (hi:Nat) (w:World) (h:(zag.slice t).rd w hi p [v]) (hhi:hi≤w.heap.size) :
 Calls Tryz.prog 111 #[v,.func (.func 114) #[] #[]] w (zbK (zaX p) w):=by
 have C:=zcX p t v hi w h hhi;obtain ⟨ao,cap,e,hm,hc⟩:=h
 cases e
 clear hc hm
 go_enter Tryz.func111,Tryz.ntmps111
 go_wp2_with fail
 refine C.mono ?_;rintro e w1 ⟨z,rfl,hz,b1⟩;have HZ:=hid hz;have HB:=hid b1;clear hz C b1
 by_cases h0:0≤z
 ·have HP:=hid (HZ.out.mp h0)
  go_wp2;go_ret;exact zaI rfl HP.out HB.out
 ·have HP:Hid (¬ zaX p):=fun h=>h0 (HZ.out.mpr h)
  have td:decide (0≤z)=false:=by simp;omega
  clear h0;go_wp2;go_ret;exact zat rfl HP.out HB.out
def zib (s:Nat→Int) (p:Nat×(Nat→Nat×(Nat→DriveD))):Prop:=(p.1:Int)=s 0+s 1∧∀ i,i<p.1→zeM s (p.2 i)
theorem ze0 (s:Nat→Int) (hs:zaq s) (p:Nat×(Nat→Nat×(Nat→DriveD))) (v:Value) (hi:Nat) (w:World) (h:((zab.slice 75).slice 76).rd w hi p [v]) (hhi:hi≤w.heap.size) :
 Calls Tryz.prog 109 #[zak s,v] w (zbK (zib s p) w):=by
 obtain ⟨ao,cap,e,hm,hc⟩:=h
 cases e
 unfold maxLen at hm;have HC:=hid hc;have T0:=zaQ w (rwS s).toArray 34;have CG:=fun w'=>zbo s hs w';have CD:=fun w'=>zei s hs w';have HS:=hid hs;clear hc hs;unfold zak at CG CD ⊢
 go_enter Tryz.func109,Tryz.ntmps109
 go_wp2_with fail
 refine (CG _).mono ?_;rintro e w1 ⟨rfl,b1⟩;have HT1:=hid (T0.call b1);clear b1 T0 CG
 by_cases hl:(p.1:Int)=s 0+s 1
 ·have hne:((p.1:Int) != s 0+s 1)=false:=by simpa using hl
  have HL:=hid hl;clear hl;go_wp2
  go_loopw [16] (fun i wr=>∃ k:Nat,k≤p.1∧i=.int .i64 k∧(∀ i,i<k→zeM s (p.2 i))∧One w wr (rwS s).toArray 34) (fun i _=>p.1-(intOf i).toNat)
  case atStart=>exact ⟨0,Nat.zero_le _,rfl,fun i hi=>by omega,HT1.out⟩
  case round=>
   clear HT1;obtain ⟨k,hk,rfl,hal,T2⟩:=hrel;obtain ⟨wo,rfl⟩:∃ x,x=wr:=⟨_,rfl⟩;have HAL:=hid hal;have HT2:=hid T2;clear hal;have x2_0:wo.cell? ⟨w.heap.size,0,none⟩=some (.int .i64 (s 0)):=T2.b1.cell 0;have x2_1:wo.cell? ⟨w.heap.size,1,none⟩=some (.int .i64 (s 1)):=T2.b1.cell 1;have x2_2:wo.cell? ⟨w.heap.size,2,none⟩=some (.int .i64 (s 2)):=T2.b1.cell 2;have x2_3:wo.cell? ⟨w.heap.size,3,none⟩=some (.int .i64 (s 3)):=T2.b1.cell 3;have x2_4:wo.cell? ⟨w.heap.size,4,none⟩=some (.int .i64 (s 4)):=T2.b1.cell 4;have x2_5:wo.cell? ⟨w.heap.size,5,none⟩=some (.int .i64 (s 5)):=T2.b1.cell 5;have x2_6:wo.cell? ⟨w.heap.size,6,none⟩=some (.int .i64 (s 6)):=T2.b1.cell 6;have x2_7:wo.cell? ⟨w.heap.size,7,none⟩=some (.int .i64 (s 7)):=T2.b1.cell 7;have x2_8:wo.cell? ⟨w.heap.size,8,none⟩=some (.int .i64 (s 8)):=T2.b1.cell 8
   by_cases hlt:k<p.1
   ·obtain ⟨b,off,he,hbl,hel⟩:=HC.out (by omega)
    subst he;obtain ⟨ck,hrk,hcell⟩:=zas (t:=0) hel T2.bel hhi hbl hlt;obtain ⟨ao9,cap9,rfl⟩:=zbq hrk
    have c0:wo.cell? ⟨b,off+k,none⟩=some (.slice ao9 (p.2 k).1 cap9):=by
     have h:=hcell 0 (show 0<1 by decide);rw [show (zab.slice 75).sz=1 from rfl,Nat.mul_one,Nat.add_zero] at h;exact h
    obtain ⟨_,_,e9,hm9,hc9⟩:=hrk
    cases e9
    have HC9:=hid hc9;unfold maxLen at hm9;have zw:w.heap.size<wo.heap.size:=T2.b1.lt;clear hcell hc9 hel T2
    go_wp2_with fail
    refine (CD _).mono ?_;rintro e w3 ⟨rfl,b3⟩;have HT3:=hid (HT2.out.call b3);have HB3:=hid b3;clear b3 c0 x2_0 x2_1 x2_2 x2_3 x2_4 x2_5 x2_6 x2_7 x2_8
    by_cases hl2:((p.2 k).1:Int)=s 2+s 3
    ·have hne2:(((p.2 k).1:Int) != s 2+s 3)=false:=by simpa using hl2
     have HL2:=hid hl2;clear hl2;go_wp2
     go_loopw [27] (fun i wx=>∃ q:Nat,q≤(p.2 k).1∧i=.int .i64 q∧(∀ i,i<q→zdP s ((p.2 k).2 i).blocks)∧One w wx (rwS s).toArray 34∧Below wo.heap.size wo wx) (fun i _=>(p.2 k).1-(intOf i).toNat)
     case atStart=>exact ⟨0,Nat.zero_le _,rfl,fun i hi=>by omega,HT3.out,HB3.out⟩
     case round=>
      clear HT3 HB3;obtain ⟨q,hq,rfl,hal2,T4,hb4⟩:=hrel;obtain ⟨wx,rfl⟩:∃ x,x=wr:=⟨_,rfl⟩;have HAL2:=hid hal2;have HT4:=hid T4;have HB4:=hid hb4;clear hal2
      by_cases hlq:q<(p.2 k).1
      ·obtain ⟨b9,off9,he9,hb9,hel9⟩:=HC9.out (by omega)
       subst he9;obtain ⟨cq,hrq,hcq⟩:=zas (t:=0) hel9 hb4 (by omega) hb9 hlq;obtain ⟨ao5,cap5,rfl,g5⟩:=zbh hrq;have c4:wx.cell? ⟨b9,off9+q*2,none⟩=some (.bool ((p.2 k).2 q).wiped):=hcq 0 (by decide);have c5:wx.cell? ⟨b9,off9+q*2+1,none⟩=some (.slice ao5 ((p.2 k).2 q).blocks.1 cap5):=hcq 1 (by decide);have HG5:=hid g5;have zx:w.heap.size<wx.heap.size:=T4.b1.lt;clear hel9 hcq hrq T4 hb4 g5
       go_upto_region 11 with fail
       have bA:=bAl wx (.cells #[.bool ((p.2 k).2 q).wiped,.slice ao5 ((p.2 k).2 q).blocks.1 cap5] 75);have T5:One w (wx.alloc (.cells #[.bool ((p.2 k).2 q).wiped,.slice ao5 ((p.2 k).2 q).blocks.1 cap5] 75)) (rwS s).toArray 34:=HT4.out.call bA;have X5:=zaz wx #[.bool ((p.2 k).2 q).wiped,.slice ao5 ((p.2 k).2 q).blocks.1 cap5] 75;obtain ⟨W5,hW5⟩:∃ x,x=wx.alloc (.cells #[.bool ((p.2 k).2 q).wiped,.slice ao5 ((p.2 k).2 q).blocks.1 cap5] 75):=⟨_,rfl⟩;rw [← hW5] at T5 X5 bA ⊢;have y5_1:W5.cell? ⟨wx.heap.size,1,none⟩=some (.slice ao5 ((p.2 k).2 q).blocks.1 cap5):=X5.cell 1;have HT5:=hid T5;have HB5:=hid bA;have x5_0:W5.cell? ⟨w.heap.size,0,none⟩=some (.int .i64 (s 0)):=T5.b1.cell 0;have x5_1:W5.cell? ⟨w.heap.size,1,none⟩=some (.int .i64 (s 1)):=T5.b1.cell 1;have x5_2:W5.cell? ⟨w.heap.size,2,none⟩=some (.int .i64 (s 2)):=T5.b1.cell 2;have x5_3:W5.cell? ⟨w.heap.size,3,none⟩=some (.int .i64 (s 3)):=T5.b1.cell 3;have x5_4:W5.cell? ⟨w.heap.size,4,none⟩=some (.int .i64 (s 4)):=T5.b1.cell 4;have x5_5:W5.cell? ⟨w.heap.size,5,none⟩=some (.int .i64 (s 5)):=T5.b1.cell 5;have x5_6:W5.cell? ⟨w.heap.size,6,none⟩=some (.int .i64 (s 6)):=T5.b1.cell 6;have x5_7:W5.cell? ⟨w.heap.size,7,none⟩=some (.int .i64 (s 7)):=T5.b1.cell 7;have x5_8:W5.cell? ⟨w.heap.size,8,none⟩=some (.int .i64 (s 8)):=T5.b1.cell 8;obtain ⟨t6,h6⟩:=exB (zdP s ((p.2 k).2 q).blocks);have CB:=zbF (zeY s HS.out ((p.2 k).2 q).blocks _ _ hi W5 ((zah.slice 43).rd_below HG5.out bA (by omega)) (by have:=bA.size;omega)) h6;unfold zak at CB;have H6:=hid h6;clear T5 X5 bA hW5 h6 c4 c5
       go_wp2_with fail
       refine CB.mono ?_;rintro e w6 ⟨rfl,b6⟩;have HT6:=hid (HT5.out.call b6);have HB6:Hid (Below wo.heap.size wo w6):=HB4.out.trans ((HB5.out.trans (b6.mono HB5.out.size)).mono HB4.out.size);clear b6 CB x5_0 x5_1 x5_2 x5_3 x5_4 x5_5 x5_6 x5_7 x5_8 y5_1
       cases t6 with
       | false=>
        go_wp2;go_ret;exact zat rfl (fun h=>by have:=H6.out.2 ((h.2 k hlt).2 q hlq);simp at this) HT6.out.bel
       | true=>
        go_wp2
        go_roundw
        case rel=>exact ⟨q+1,by omega,by go_num,fun i hi=>by
         by_cases c:i=q
         ·subst c;exact H6.out.1 (by simp)
         ·exact HAL2.out i (by omega),HT6.out,HB6.out⟩
        case measure=>simp [intOf];omega
      ·obtain rfl:q=(p.2 k).1:=by omega
       clear T4 hb4;go_wp2
       go_roundw
       case rel=>exact ⟨k+1,by omega,by go_num,fun i hi=>by
        by_cases c:i=k
        ·subst c
         exact ⟨HL2.out,HAL2.out⟩
        ·exact HAL.out i (by omega),HT4.out⟩
       case measure=>simp [intOf];omega
    ·have hne2:(((p.2 k).1:Int) != s 2+s 3)=true:=by simpa using hl2
     have HN2:=hid hl2;clear hl2;go_wp2;go_ret;exact zat rfl (fun h=>HN2.out (h.2 k hlt).1) HT3.out.bel
   ·obtain rfl:k=p.1:=by omega
    go_wp2;go_ret;exact zaI rfl ⟨HL.out,HAL.out⟩ HT2.out.bel
 ·have hne:((p.1:Int) != s 0+s 1)=true:=by simpa using hl
  have HN:=hid hl;clear hl;go_wp2;go_ret;exact zat rfl (fun h=>HN.out h.1) HT1.out.bel
theorem zhy (s:Nat→Int) (hs:zaq s) (r:RecD) (cs:List Value) (hi:Nat) (w:World) (h:zac.rd w hi r cs) (hhi:hi≤w.heap.size) :
 Calls Tryz.prog 141 #[zak s,.agg cs.toArray] w (zbK (zby s r) w):=by
 obtain ⟨ao6,cap6,ao7,cap7,ao8,cap8,rfl,g6,g7,g8,-,-,-,hl,-⟩:=zbd h;clear h;have hb:=okB hs;obtain ⟨v6,e6,⟨h6,hcp6⟩,_⟩:=g6
 cases e6
 have H6:=hid h6;have HCP:=hid hcp6;have hm6:=h6.mx;obtain ⟨v7,e7,⟨_,_,e7',hm7,_⟩,_⟩:=g7
 cases e7
 cases e7'
 unfold maxLen at hm6 hm7;clear h6 hcp6 g8;have T0:=zay w (rwS s).toArray (rwR r ao6 cap6 ao7 cap7 ao8 cap8).toArray 34 56;have CP:=fun w'=>zeV s r.length w';unfold zak intR at CP;unfold zak
 go_enter Tryz.func141,Tryz.ntmps141
 by_cases hl1:r.length=-1
 ·have HL:=hid hl1
  have e1:(r.length==-1)=true:=by simp [hl1]
  have HB:=hid T0.bel;clear T0 CP hl1;obtain ⟨b0,h0⟩:∃ b,((r.data.1:Int)==0)=b:=⟨_,rfl⟩;obtain ⟨b1,h1⟩:∃ b,((r.rows.1:Int)==0)=b:=⟨_,rfl⟩
  have HE:Hid (zby s r↔(b0=true∧b1=true)):=by
   show zby s r↔_
   rw [← h0,← h1];unfold zby
   simp [HL.out]
  have hst:b0=false∨(b0=true∧b1=false)∨(b0=true∧b1=true):=by
   clear HE h0 h1
   cases b0<;>simp
  rcases hst with rfl | ⟨rfl,rfl⟩ | ⟨rfl,rfl⟩
  all_goals
   go_wp2;go_ret
   first
    | exact zat rfl (fun h=>by have:=HE.out.1 h;simp at this) HB.out
    | exact zaI rfl (HE.out.2 (by simp)) HB.out
 ·have e1:(r.length==-1)=false:=by simp [hl1]
  have HL:=hid hl1;clear hl1
  go_wp2_with fail
  refine (CP _).mono ?_;rintro e w1 ⟨pv,pc,rfl,hp,b1⟩;have T1:Two w w1 (rwS s).toArray (rwR r ao6 cap6 ao7 cap7 ao8 cap8).toArray 34 56:=T0.call b1;clear b1 T0 CP;have HT1:=hid T1;have z1:w.heap.size+1<w1.heap.size:=T1.b2.lt;have x1_0:w1.cell? ⟨w.heap.size,0,none⟩=some (.int .i64 (s 0)):=T1.b1.cell 0;have x1_1:w1.cell? ⟨w.heap.size,1,none⟩=some (.int .i64 (s 1)):=T1.b1.cell 1;have x1_2:w1.cell? ⟨w.heap.size,2,none⟩=some (.int .i64 (s 2)):=T1.b1.cell 2;have x1_3:w1.cell? ⟨w.heap.size,3,none⟩=some (.int .i64 (s 3)):=T1.b1.cell 3;have x1_4:w1.cell? ⟨w.heap.size,4,none⟩=some (.int .i64 (s 4)):=T1.b1.cell 4;have x1_5:w1.cell? ⟨w.heap.size,5,none⟩=some (.int .i64 (s 5)):=T1.b1.cell 5;have x1_6:w1.cell? ⟨w.heap.size,6,none⟩=some (.int .i64 (s 6)):=T1.b1.cell 6;have x1_7:w1.cell? ⟨w.heap.size,7,none⟩=some (.int .i64 (s 7)):=T1.b1.cell 7;have x1_8:w1.cell? ⟨w.heap.size,8,none⟩=some (.int .i64 (s 8)):=T1.b1.cell 8;have y1_0:w1.cell? ⟨w.heap.size+1,0,none⟩=some (.int .i64 r.kind):=T1.b2.cell 0;have y1_1:w1.cell? ⟨w.heap.size+1,1,none⟩=some (.int .i64 r.seq):=T1.b2.cell 1;have y1_2:w1.cell? ⟨w.heap.size+1,2,none⟩=some (.string r.name):=T1.b2.cell 2;have y1_3:w1.cell? ⟨w.heap.size+1,3,none⟩=some (.int .i64 r.length):=T1.b2.cell 3;have y1_4:w1.cell? ⟨w.heap.size+1,4,none⟩=some (.int .i64 r.group):=T1.b2.cell 4;have y1_5:w1.cell? ⟨w.heap.size+1,5,none⟩=some (.int .i64 r.row):=T1.b2.cell 5;have y1_6:w1.cell? ⟨w.heap.size+1,6,none⟩=some (.slice ao6 r.rows.1 cap6):=T1.b2.cell 6;have y1_7:w1.cell? ⟨w.heap.size+1,7,none⟩=some (.slice ao7 r.data.1 cap7):=T1.b2.cell 7;have y1_8:w1.cell? ⟨w.heap.size+1,8,none⟩=some (.slice ao8 r.delta.1 cap8):=T1.b2.cell 8;clear T1
  go_upto_region 4 with fail
  have bA:=bAl w1 (.cells #[.int .i64 pc,.int .i64 pv] 177);have T2:Two w (w1.alloc (.cells #[.int .i64 pc,.int .i64 pv] 177)) (rwS s).toArray (rwR r ao6 cap6 ao7 cap7 ao8 cap8).toArray 34 56:=HT1.out.call bA;have X2:=zaz w1 #[.int .i64 pc,.int .i64 pv] 177;obtain ⟨W2,hW2⟩:∃ W2,W2=w1.alloc (.cells #[.int .i64 pc,.int .i64 pv] 177):=⟨_,rfl⟩;rw [← hW2] at T2 X2 ⊢;have HT2:=hid T2;have q0:W2.cell? ⟨w1.heap.size,0,none⟩=some (.int .i64 pc):=X2.cell 0;have q1:W2.cell? ⟨w1.heap.size,1,none⟩=some (.int .i64 pv):=X2.cell 1;clear bA hW2 x1_0 y1_0 x1_1 y1_1 x1_2 y1_2 x1_3 y1_3 x1_4 y1_4 x1_5 y1_5 x1_6 y1_6 x1_7 y1_7 x1_8 y1_8;have x2_0:W2.cell? ⟨w.heap.size,0,none⟩=some (.int .i64 (s 0)):=T2.b1.cell 0;have x2_1:W2.cell? ⟨w.heap.size,1,none⟩=some (.int .i64 (s 1)):=T2.b1.cell 1;have x2_2:W2.cell? ⟨w.heap.size,2,none⟩=some (.int .i64 (s 2)):=T2.b1.cell 2;have x2_3:W2.cell? ⟨w.heap.size,3,none⟩=some (.int .i64 (s 3)):=T2.b1.cell 3;have x2_4:W2.cell? ⟨w.heap.size,4,none⟩=some (.int .i64 (s 4)):=T2.b1.cell 4;have x2_5:W2.cell? ⟨w.heap.size,5,none⟩=some (.int .i64 (s 5)):=T2.b1.cell 5;have x2_6:W2.cell? ⟨w.heap.size,6,none⟩=some (.int .i64 (s 6)):=T2.b1.cell 6;have x2_7:W2.cell? ⟨w.heap.size,7,none⟩=some (.int .i64 (s 7)):=T2.b1.cell 7;have x2_8:W2.cell? ⟨w.heap.size,8,none⟩=some (.int .i64 (s 8)):=T2.b1.cell 8;have y2_0:W2.cell? ⟨w.heap.size+1,0,none⟩=some (.int .i64 r.kind):=T2.b2.cell 0;have y2_1:W2.cell? ⟨w.heap.size+1,1,none⟩=some (.int .i64 r.seq):=T2.b2.cell 1;have y2_2:W2.cell? ⟨w.heap.size+1,2,none⟩=some (.string r.name):=T2.b2.cell 2;have y2_3:W2.cell? ⟨w.heap.size+1,3,none⟩=some (.int .i64 r.length):=T2.b2.cell 3;have y2_4:W2.cell? ⟨w.heap.size+1,4,none⟩=some (.int .i64 r.group):=T2.b2.cell 4;have y2_5:W2.cell? ⟨w.heap.size+1,5,none⟩=some (.int .i64 r.row):=T2.b2.cell 5;have y2_6:W2.cell? ⟨w.heap.size+1,6,none⟩=some (.slice ao6 r.rows.1 cap6):=T2.b2.cell 6;have y2_7:W2.cell? ⟨w.heap.size+1,7,none⟩=some (.slice ao7 r.data.1 cap7):=T2.b2.cell 7;have y2_8:W2.cell? ⟨w.heap.size+1,8,none⟩=some (.slice ao8 r.delta.1 cap8):=T2.b2.cell 8
  clear T2 X2
  by_cases hok:1≤r.length∧r.length≤3*(s 2*4)
  ·have hpp:pc=0∧pv=(r.length+s 2*4-1)/(s 2*4):=by
    rcases hp with ⟨h1,_⟩ | ⟨_,h1,_⟩ | ⟨_,h1,h2,_⟩ | ⟨_,_,_,h1,h2⟩
    ·exact absurd hs h1
    ·omega
    ·omega
    ·exact ⟨h1,h2⟩
   obtain ⟨rfl,hpv⟩:=hpp;have HPV:=hid hpv;have HOK:=hid hok;clear hp hpv hs
   by_cases hd:0<r.data.1
   ·have d1:decide (0<(r.data.1:Int))=true:=by simp;omega
    obtain ⟨b0,h0⟩:∃ b,((r.data.1:Int)==r.length)=b:=⟨_,rfl⟩;obtain ⟨b1,h1⟩:∃ b,((r.rows.1:Int)==0)=b:=⟨_,rfl⟩
    have HE:Hid (zby s r↔(b0=true∧b1=true)):=by
     show zby s r↔_
     rw [← h0,← h1];unfold zby;have:=HL.out;have:=HOK.out
     constructor
     ·rintro (h | ⟨_,_,_,h | h⟩)
      ·omega
      ·simp;omega
      ·omega
     ·intro h
      simp at h
      exact .inr ⟨by omega,by omega,by omega,.inl ⟨hd,h.1,h.2⟩⟩
    have hst:b0=false∨(b0=true∧b1=false)∨(b0=true∧b1=true):=by
     clear HE h0 h1
     cases b0<;>simp
    clear hok
    rcases hst with rfl | ⟨rfl,rfl⟩ | ⟨rfl,rfl⟩
    all_goals
     go_wp2;go_ret
     first
      | exact zat rfl (fun h=>by have:=HE.out.1 h;simp at this) HT2.out.bel
      | exact zaI rfl (HE.out.2 (by simp)) HT2.out.bel
   ·have d1:decide (0<(r.data.1:Int))=false:=by simp;omega
    have hd0:r.data.1=0:=by omega
    obtain ⟨t2,h2⟩:=exB (zbR r.rows.1 r.rows.2 (s 4-1));have cQ:=zbF (zct _ r.rows.1 r.rows.2 hi (s 4) (by omega) (by omega) W2 (H6.out.below HT2.out.bel hhi) HCP.out (Nat.le_trans hhi HT2.out.bel.size)) h2;obtain ⟨b0,h0⟩:∃ b,((r.rows.1:Int)==pv)=b:=⟨_,rfl⟩
    have HE:Hid (zby s r↔(b0=true∧t2=true)):=by
     show zby s r↔_
     rw [← h0,h2,HPV.out];unfold zby;have:=HL.out;have:=HOK.out
     constructor
     ·rintro (h | ⟨_,_,_,h | h⟩)
      ·omega
      ·omega
      ·exact ⟨by simpa using h.2.1,h.2.2⟩
     ·intro h
      exact .inr ⟨by omega,by omega,by omega,.inr ⟨hd0,by simpa using h.1,h.2⟩⟩
    clear hok h2 hd0
    cases b0 with
    | false=>
     go_wp2;go_ret;exact zat rfl (fun h=>by have:=HE.out.1 h;simp at this) HT2.out.bel
    | true=>
     go_wp2_with fail
     refine cQ.mono ?_;rintro e w3 ⟨rfl,b3⟩;have HB3:Hid (Below w.heap.size w w3):=(HT2.out.call b3).bel;clear b3 cQ;go_wp2;go_ret
     cases t2 with
     | true=>exact zaI rfl (HE.out.2 (by simp)) HB3.out
     | false=>exact zat rfl (fun h=>by have:=HE.out.1 h;simp at this) HB3.out
  ·have hc0:(pc != 0)=true:=by
    have:pc≠0:=by
     rcases hp with ⟨h1,h2,_⟩ | ⟨_,h1,h2,_⟩ | ⟨_,h1,h2,h3,_⟩ | ⟨_,h1,h2,h3,_⟩
     ·omega
     ·omega
     ·omega
     ·omega
    simp [this]
   have HNO:Hid (¬ zby s r):=fun h=>by
    have:=HL.out;unfold zby at h;omega
   clear hp hok;go_wp2;go_ret;exact zat rfl HNO.out HT2.out.bel
def zdp (g:Nat→Int):Nat→Int
 | 0=>0
 | k+1=>g k+1
theorem zic {g:Nat→Int} {most:Int} {k:Nat} (h:zcC k g most) (h1:zdp g k≤g k) (h2:g k≤most):zcC (k+1) g most:=fun i hi=>by
 by_cases c:i=k
 ·subst c
  cases i with
  | zero=>exact ⟨h1,h2,fun h0=>by omega⟩
  | succ j=>
   have:=(h j (by omega)).1
   simp only [zdp] at h1
   exact ⟨by omega,h2,fun _=>by rw [show j+1-1=j by omega];omega⟩
 ·exact h i (by omega)
theorem zhz {g:Nat→Int} {most:Int} {n k:Nat} (h:zcC n g most) (hk:k<n):zdp g k≤g k:=by
 cases k with
 | zero=>exact (h 0 hk).1
 | succ j=>
  have:=(h (j+1) hk).2.2 (by omega);rw [show j+1-1=j by omega] at this
  simp only [zdp]
  omega
theorem zdY (v:Value) (n:Nat) (g:Nat→Int) (hi:Nat) (bound:Int) (hb:bound≤1000000) (w:World) (r:RdI w hi v n g) :
 Calls Tryz.prog 163 #[v,.int .i64 bound] w (zbK (zcC n g (bound-1)) w):=by
 obtain ⟨ao,cap,rfl,hm,hc⟩:=r;unfold maxLen at hm
 go_enter Tryz.func163,Tryz.ntmps163
 go_wp2
 go_loop [5,10] (fun l i=>∃ k:Nat,k≤n∧i=.int .i64 k∧l=.int .i64 (zdp g k)∧zcC k g (bound-1)) (fun _ i=>n-(intOf i).toNat)
 case atStart=>exact ⟨0,Nat.zero_le _,rfl,rfl,fun i hi=>by omega⟩
 case round=>
  obtain ⟨k,hk,rfl,rfl,hall⟩:=hrel;have HALL:=hid hall;clear hall
  by_cases hlt:k<n
  ·obtain ⟨b,off,rfl,hblt,hcell⟩:=hc (by omega)
   have hck:w.cell? ⟨b,off+k,none⟩=some (.int .i64 (g k)):=hcell k hlt;obtain ⟨x,hx⟩:∃ x,x=g k:=⟨_,rfl⟩;have HX:=hid hx;rw [← hx] at hck;obtain ⟨l,hl⟩:∃ l,l=zdp g k:=⟨_,rfl⟩;have HL:=hid hl;rw [← hl]
   have hl0:0≤l:=by
    rw [hl]
    cases k with
    | zero=>exact Int.le_refl _
    | succ j=>
     have:=(HALL.out j (by omega)).1
     simp only [zdp]
     omega
   clear hc hcell hx hl
   by_cases h1:x<l
   ·have HNO:Hid (¬ zcC n g (bound-1)):=fun h=>by
     have:=zhz h hlt;rw [← HX.out,← HL.out] at this;omega
    go_wp2;go_ret;exact zat rfl HNO.out (Below.refl _ _)
   ·have e1:decide (x<l)=false:=by simp;omega
    by_cases h2:bound≤x
    ·have HNO:Hid (¬ zcC n g (bound-1)):=fun h=>by
      have:=(h k hlt).2.1;rw [← HX.out] at this;omega
     clear h1;go_wp2;go_ret;exact zat rfl HNO.out (Below.refl _ _)
    ·have e2:decide (bound≤x)=false:=by simp;omega
     have HRN:Hid (zcC (k+1) g (bound-1)):=zic HALL.out (by rw [← HX.out,← HL.out];omega) (by rw [← HX.out];omega)
     have hxb:x≤1000000:=by omega
     have hx0:0≤x:=by omega
     have HLN:Hid (x+1=zdp g (k+1)):=by show x+1=g k+1;rw [HX.out]
     have wadd:IntKind.i64.wrap (x+1)=x+1:=by rw [IntKind.wrap_i64];omega
     clear h1 h2;go_wp2
     go_round
     case rel=>exact ⟨k+1,by omega,by go_num,by rw [← HLN.out],HRN.out⟩
     case measure=>simp [intOf];omega
  ·obtain rfl:k=n:=by omega
   clear hc;go_wp2;go_ret;exact zaI rfl HALL.out (Below.refl _ _)
theorem zgC (s:Nat→Int) (hs:zaq s) (r:RecD) (cs:List Value) (hi:Nat) (w:World) (h:zac.rd w hi r cs) (hhi:hi≤w.heap.size) :
 Calls Tryz.prog 144 #[zak s,.agg cs.toArray] w (zbK (zg0 s r) w):=by
 obtain ⟨ao6,cap6,ao7,cap7,ao8,cap8,rfl,g6,g7,g8,-⟩:=zbd h;clear h;have hb:=okB hs;have HS:=hid hs;obtain ⟨v6,e6,⟨h6,hcp6⟩,_⟩:=g6
 cases e6
 have H6:=hid h6;have hm6:=h6.mx;obtain ⟨_,_,e6',_,hc6⟩:=h6
 cases e6'
 obtain ⟨v7,e7,⟨_,_,e7',hm7,_⟩,_⟩:=g7
 cases e7
 cases e7'
 obtain ⟨v8,e8,⟨_,_,e8',hm8,hc8⟩,hk8⟩:=g8
 cases e8
 cases e8'
 have HC6:=hid hc6;have HC8:=hid hc8;unfold maxLen at hm6 hm7 hm8;clear hcp6 hc6 hc8 hk8;unfold zak
 go_enter Tryz.func144,Tryz.ntmps144
 go_wp2_with fail
 have T0:=zay w (rwS s).toArray (rwR r ao6 cap6 ao7 cap7 ao8 cap8).toArray 34 56;obtain ⟨W,hW⟩:∃ W,W=(w.alloc (.cells (rwS s).toArray 34)).alloc (.cells (rwR r ao6 cap6 ao7 cap7 ao8 cap8).toArray 56):=⟨_,rfl⟩;rw [← hW] at T0 ⊢;clear hW;have HT:=hid T0;have x0_0:W.cell? ⟨w.heap.size,0,none⟩=some (.int .i64 (s 0)):=T0.b1.cell 0;have kx0_0:=cell_regrown x0_0;have x0_1:W.cell? ⟨w.heap.size,1,none⟩=some (.int .i64 (s 1)):=T0.b1.cell 1;have kx0_1:=cell_regrown x0_1;have x0_2:W.cell? ⟨w.heap.size,2,none⟩=some (.int .i64 (s 2)):=T0.b1.cell 2;have kx0_2:=cell_regrown x0_2;have x0_3:W.cell? ⟨w.heap.size,3,none⟩=some (.int .i64 (s 3)):=T0.b1.cell 3;have kx0_3:=cell_regrown x0_3;have x0_4:W.cell? ⟨w.heap.size,4,none⟩=some (.int .i64 (s 4)):=T0.b1.cell 4;have kx0_4:=cell_regrown x0_4;have x0_5:W.cell? ⟨w.heap.size,5,none⟩=some (.int .i64 (s 5)):=T0.b1.cell 5;have kx0_5:=cell_regrown x0_5;have x0_6:W.cell? ⟨w.heap.size,6,none⟩=some (.int .i64 (s 6)):=T0.b1.cell 6;have kx0_6:=cell_regrown x0_6;have x0_7:W.cell? ⟨w.heap.size,7,none⟩=some (.int .i64 (s 7)):=T0.b1.cell 7;have kx0_7:=cell_regrown x0_7;have x0_8:W.cell? ⟨w.heap.size,8,none⟩=some (.int .i64 (s 8)):=T0.b1.cell 8;have kx0_8:=cell_regrown x0_8;have y0_0:W.cell? ⟨w.heap.size+1,0,none⟩=some (.int .i64 r.kind):=T0.b2.cell 0;have ky0_0:=cell_regrown y0_0;have y0_1:W.cell? ⟨w.heap.size+1,1,none⟩=some (.int .i64 r.seq):=T0.b2.cell 1;have ky0_1:=cell_regrown y0_1;have y0_2:W.cell? ⟨w.heap.size+1,2,none⟩=some (.string r.name):=T0.b2.cell 2;have ky0_2:=cell_regrown y0_2;have y0_3:W.cell? ⟨w.heap.size+1,3,none⟩=some (.int .i64 r.length):=T0.b2.cell 3;have ky0_3:=cell_regrown y0_3;have y0_4:W.cell? ⟨w.heap.size+1,4,none⟩=some (.int .i64 r.group):=T0.b2.cell 4;have ky0_4:=cell_regrown y0_4;have y0_5:W.cell? ⟨w.heap.size+1,5,none⟩=some (.int .i64 r.row):=T0.b2.cell 5;have ky0_5:=cell_regrown y0_5;have y0_6:W.cell? ⟨w.heap.size+1,6,none⟩=some (.slice ao6 r.rows.1 cap6):=T0.b2.cell 6
 have ky0_6:=cell_regrown y0_6;have y0_7:W.cell? ⟨w.heap.size+1,7,none⟩=some (.slice ao7 r.data.1 cap7):=T0.b2.cell 7;have ky0_7:=cell_regrown y0_7;have y0_8:W.cell? ⟨w.heap.size+1,8,none⟩=some (.slice ao8 r.delta.1 cap8):=T0.b2.cell 8;have ky0_8:=cell_regrown y0_8;obtain ⟨t1,h1⟩:=exB (InP r.group 0 (s 0+s 1-1));obtain ⟨t2,h2⟩:=exB (InP r.row 0 (s 4-1));obtain ⟨t3,h3⟩:=exB (zcC r.rows.1 r.rows.2 (s 0+s 1-1));have cG:=zaE (W:=W) (fun w' _=>zfJ HS.out h1 w');have cR:=zaE (W:=W) (fun w' _=>zia HS.out h2 w');have cA:=zaE (W:=W) (fun w' _=>zbo s HS.out w');have cS:=zaE (W:=W) (fun w' hw'=>zbF (zdY _ r.rows.1 r.rows.2 hi (s 0+s 1) (by omega) w' ((H6.out.below T0.bel hhi).below hw' (Nat.le_trans hhi T0.bel.size))) h3);unfold zak at cG cR cA;clear T0;have H1:=hid h1;have H2:=hid h2;have H3:=hid h3
 have hst:t1=false∨(t1=true∧t2=false)∨(t1=true∧t2=true∧t3=false)∨(t1=true∧t2=true∧t3=true):=by
  clear H1 H2 H3 h1 h2 h3 cG cR cS
  cases t1<;>simp
  cases t2<;>simp
 clear h1 h2 h3
 rcases hst with rfl | ⟨rfl,rfl⟩ | ⟨rfl,rfl,rfl⟩ | ⟨rfl,rfl,rfl⟩
 all_goals
  refine WQ.region (by kernel_rfl) (by kernel_rfl) ?_
  repeat (first | (apply WQ.skip;(case hw=>rfl);intro K hK;go_simp;apply hK;clear hK K) | (apply WQ.want;(case hw=>rfl);intro K hK;go_simp;first | (apply hK;clear hK K) | (apply Exists.intro;apply And.intro;(case left=>intro p;(first | (go_at_call 73;exact cG _ _) | (go_at_call 42;exact cR _ _) | (go_at_call 115;exact cA _ _) | (go_at_call 163;exact cS _ _)));apply hK;clear hK K)))
  refine WQ.nil ?_;intro w1 hw1;have T1:=HT.out.call (zaO hw1);have HT1:=hid T1;clear hw1 x0_0 kx0_0 y0_0 ky0_0 x0_1 kx0_1 y0_1 ky0_1 x0_2 kx0_2 y0_2 ky0_2 x0_3 kx0_3 y0_3 ky0_3 x0_4 kx0_4 y0_4 ky0_4 x0_5 kx0_5 y0_5 ky0_5 x0_6 kx0_6 y0_6 ky0_6 x0_7 kx0_7 y0_7 ky0_7 x0_8 kx0_8 y0_8 ky0_8 cG cR cA cS
 ·clear T1
  go_wp2;go_ret;exact zat rfl (fun h=>by have:=H1.out.2 h.1;simp at this) HT1.out.bel
 ·clear T1
  go_wp2;go_ret;exact zat rfl (fun h=>by have:=H2.out.2 h.2.1;simp at this) HT1.out.bel
 ·clear T1
  go_wp2;go_ret;exact zat rfl (fun h=>by have:=H3.out.2 h.2.2.1;simp at this) HT1.out.bel
 have HG:Hid (InP r.group 0 (s 0+s 1-1)):=H1.out.1 rfl;have HR:Hid (zcC r.rows.1 r.rows.2 (s 0+s 1-1)):=H3.out.1 rfl;have HW:Hid (InP r.row 0 (s 4-1)):=H2.out.1 rfl;clear H1 H2 H3;have x1_0:w1.cell? ⟨w.heap.size,0,none⟩=some (.int .i64 (s 0)):=T1.b1.cell 0;have kx1_0:=cell_regrown x1_0;have x1_1:w1.cell? ⟨w.heap.size,1,none⟩=some (.int .i64 (s 1)):=T1.b1.cell 1;have kx1_1:=cell_regrown x1_1;have x1_2:w1.cell? ⟨w.heap.size,2,none⟩=some (.int .i64 (s 2)):=T1.b1.cell 2;have kx1_2:=cell_regrown x1_2;have x1_3:w1.cell? ⟨w.heap.size,3,none⟩=some (.int .i64 (s 3)):=T1.b1.cell 3;have kx1_3:=cell_regrown x1_3;have x1_4:w1.cell? ⟨w.heap.size,4,none⟩=some (.int .i64 (s 4)):=T1.b1.cell 4;have kx1_4:=cell_regrown x1_4;have x1_5:w1.cell? ⟨w.heap.size,5,none⟩=some (.int .i64 (s 5)):=T1.b1.cell 5;have kx1_5:=cell_regrown x1_5;have x1_6:w1.cell? ⟨w.heap.size,6,none⟩=some (.int .i64 (s 6)):=T1.b1.cell 6;have kx1_6:=cell_regrown x1_6;have x1_7:w1.cell? ⟨w.heap.size,7,none⟩=some (.int .i64 (s 7)):=T1.b1.cell 7;have kx1_7:=cell_regrown x1_7;have x1_8:w1.cell? ⟨w.heap.size,8,none⟩=some (.int .i64 (s 8)):=T1.b1.cell 8;have kx1_8:=cell_regrown x1_8;have y1_0:w1.cell? ⟨w.heap.size+1,0,none⟩=some (.int .i64 r.kind):=T1.b2.cell 0;have ky1_0:=cell_regrown y1_0;have y1_1:w1.cell? ⟨w.heap.size+1,1,none⟩=some (.int .i64 r.seq):=T1.b2.cell 1;have ky1_1:=cell_regrown y1_1;have y1_2:w1.cell? ⟨w.heap.size+1,2,none⟩=some (.string r.name):=T1.b2.cell 2;have ky1_2:=cell_regrown y1_2;have y1_3:w1.cell? ⟨w.heap.size+1,3,none⟩=some (.int .i64 r.length):=T1.b2.cell 3;have ky1_3:=cell_regrown y1_3;have y1_4:w1.cell? ⟨w.heap.size+1,4,none⟩=some (.int .i64 r.group):=T1.b2.cell 4;have ky1_4:=cell_regrown y1_4;have y1_5:w1.cell? ⟨w.heap.size+1,5,none⟩=some (.int .i64 r.row):=T1.b2.cell 5;have ky1_5:=cell_regrown y1_5;have y1_6:w1.cell? ⟨w.heap.size+1,6,none⟩=some (.slice ao6 r.rows.1 cap6):=T1.b2.cell 6;have ky1_6:=cell_regrown y1_6;have y1_7:w1.cell? ⟨w.heap.size+1,7,none⟩=some (.slice ao7 r.data.1 cap7):=T1.b2.cell 7;have ky1_7:=cell_regrown y1_7;have y1_8:w1.cell? ⟨w.heap.size+1,8,none⟩=some (.slice ao8 r.delta.1 cap8):=T1.b2.cell 8;have ky1_8:=cell_regrown y1_8;obtain ⟨t4,h4⟩:∃ b,((r.data.1:Int)==s 2*4)=b:=⟨_,rfl⟩;obtain ⟨b5,h5⟩:∃ b,((r.delta.1:Int) != s 0+s 1)=b:=⟨_,rfl⟩;have cL:=zaE (W:=w1) (fun w' _=>zdX HS.out (ao:=ao7) (cap:=cap7) (by omega) h4 w');have cA:=zaE (W:=w1) (fun w' _=>zbo s HS.out w');unfold zak at cL cA;clear T1
 have H4:Hid (t4=true↔(r.data.1:Int)=s 2*4):=by
  show t4=true↔_
  rw [← h4]
  simp
 have H5:Hid (b5=false↔(r.delta.1:Int)=s 0+s 1):=by
  show b5=false↔_
  rw [← h5]
  simp
 have hst:t4=false∨(t4=true∧b5=true)∨(t4=true∧b5=false):=by
  clear H4 H5 h4 h5 cL
  cases t4<;>simp
 clear h4;go_wp2
 rcases hst with rfl | ⟨rfl,rfl⟩ | ⟨rfl,rfl⟩
 all_goals
  refine WQ.region (by kernel_rfl) (by kernel_rfl) ?_
  repeat (first | (apply WQ.skip;(case hw=>rfl);intro K hK;go_simp;apply hK;clear hK K) | (apply WQ.want;(case hw=>rfl);intro K hK;go_simp;first | (apply hK;clear hK K) | (apply Exists.intro;apply And.intro;(case left=>intro p;(first | (go_at_call 143;exact cL _ _) | (go_at_call 115;exact cA _ _)));apply hK;clear hK K)))
  refine WQ.nil ?_;intro w2 hw2;have T2:=HT1.out.call (zaO hw2);have HT2:=hid T2;clear hw2 x1_0 kx1_0 y1_0 ky1_0 x1_1 kx1_1 y1_1 ky1_1 x1_2 kx1_2 y1_2 ky1_2 x1_3 kx1_3 y1_3 ky1_3 x1_4 kx1_4 y1_4 ky1_4 x1_5 kx1_5 y1_5 ky1_5 x1_6 kx1_6 y1_6 ky1_6 x1_7 kx1_7 y1_7 ky1_7 x1_8 kx1_8 y1_8 ky1_8 cL cA
 ·clear T2
  go_wp2;go_ret;exact zat rfl (fun h=>by have:=H4.out.2 h.2.2.2.1;simp at this) HT2.out.bel
 ·clear T2
  go_wp2;go_ret;exact zat rfl (fun h=>by have:=H5.out.2 h.2.2.2.2.1;simp at this) HT2.out.bel
 have HDA:Hid ((r.data.1:Int)=s 2*4):=H4.out.1 rfl;have hlen:(r.delta.1:Int)=s 0+s 1:=H5.out.1 rfl;have HLEN:=hid hlen;clear H4 H5 h5;obtain ⟨b8,off8,he8,hb8,hcell8⟩:=HC8.out (by omega);subst he8;have HCE:=hid hcell8;have y2_6:w2.cell? ⟨w.heap.size+1,6,none⟩=some (.slice ao6 r.rows.1 cap6):=T2.b2.cell 6;clear hcell8 T2 HC8 hlen;go_wp2
 go_loopw [43] (fun i wr=>∃ k:Nat,k≤r.rows.1∧i=.int .i64 k∧(∀ i,i<k→r.delta.2 (r.rows.2 i).toNat≠0)∧Two w wr (rwS s).toArray (rwR r ao6 cap6 ao7 cap7 (some ⟨b8,off8,none⟩) cap8).toArray 34 56) (fun i _=>r.rows.1-(intOf i).toNat)
 case atStart=>exact ⟨0,Nat.zero_le _,rfl,fun i hi=>by omega,HT2.out⟩
 case round=>
  obtain ⟨k,hk,rfl,hal,T3⟩:=hrel;have HAL:=hid hal;have H3:=hid T3;clear hal y2_6;have y3_8:wr.cell? ⟨w.heap.size+1,8,none⟩=some (.slice (some ⟨b8,off8,none⟩) r.delta.1 cap8):=T3.b2.cell 8;have y3_4:wr.cell? ⟨w.heap.size+1,4,none⟩=some (.int .i64 r.group):=T3.b2.cell 4
  by_cases hlt:k<r.rows.1
  ·obtain ⟨b6,off6,he6,hb6,hcell6⟩:=HC6.out (by omega)
   subst he6;have hrk:=HR.out k hlt;have hl:=HLEN.out;obtain ⟨Y,hY⟩:∃ Y:Nat,r.rows.2 k=(Y:Int):=⟨(r.rows.2 k).toNat,by omega⟩
   have hYl:Y<r.delta.1:=by omega
   have c6:wr.cell? ⟨b6,off6+k,none⟩=some (.int .i64 (Y:Int)):=by
    rw [← hY];exact (T3.bel.cell (p:=⟨b6,off6+k,none⟩) (by show b6<w.heap.size;omega)).trans (hcell6 k hlt)
   have c8:wr.cell? ⟨b8,off8+Y,none⟩=some (.int .u8 (r.delta.2 Y)):=(T3.bel.cell (p:=⟨b8,off8+Y,none⟩) (by show b8<w.heap.size;omega)).trans (HCE.out Y hYl);have HY:=hid hY;clear hcell6 hrk hY T3 hl;obtain ⟨z0,hz0⟩:∃ x,x=r.delta.2 Y:=⟨_,rfl⟩;have HZ0:=hid hz0;rw [← hz0] at c8;clear hz0
   by_cases hz:z0=0
   ·subst hz
    go_wp2;go_ret;exact zat rfl (fun h=>h.2.2.2.2.2.2 k hlt (by rw [HY.out];exact HZ0.out.symm)) H3.out.bel
   ·have hz':((z0:Int)==0)=false:=by simp;omega
    go_wp2
    go_roundw
    case rel=>exact ⟨k+1,by omega,by go_num,fun i hi=>by
     by_cases c:i=k
     ·subst c
      rw [HY.out,Int.toNat_natCast,← HZ0.out];exact hz
     ·exact HAL.out i (by omega),H3.out⟩
    case measure=>simp [intOf];omega
  ·obtain rfl:k=r.rows.1:=by omega
   have hg:=HG.out;have hl:=HLEN.out;unfold InP at hg;obtain ⟨G,hG⟩:∃ G:Nat,r.group=(G:Int):=⟨r.group.toNat,by omega⟩
   have hGl:G<r.delta.1:=by omega
   have d0:wr.cell? ⟨b8,off8+G,none⟩=some (.int .u8 (r.delta.2 G)):=(T3.bel.cell (p:=⟨b8,off8+G,none⟩) (by show b8<w.heap.size;omega)).trans (HCE.out G hGl);rw [hG] at y3_4;have HGG:=hid hG;obtain ⟨x0,hx0⟩:∃ x,x=r.delta.2 G:=⟨_,rfl⟩;have HX0:=hid hx0;rw [← hx0] at d0;clear hx0 hG hg hl T3
   by_cases hz:x0=0
   ·subst hz
    go_wp2;go_ret;exact zaI rfl ⟨HG.out,HW.out,HR.out,HDA.out,HLEN.out,by rw [HGG.out,Int.toNat_natCast];exact HX0.out.symm,HAL.out⟩ H3.out.bel
   ·have hz':((x0:Int)==0)=false:=by simp;omega
    go_wp2;go_ret;exact zat rfl (fun h=>hz (by rw [HX0.out,← h.2.2.2.2.2.1,HGG.out,Int.toNat_natCast])) H3.out.bel
theorem ziu (seq:Int) (name:ByteArray) (length group row:Int) (rows:Nat×(Nat→Int)) (data delta:Nat×(Nat→Nat)) (ao6 ao7 ao8:Option Addr) (cap6 cap7 cap8:Nat) (w:World) :
 Calls Tryz.prog 100 #[.agg #[.int .i64 1,.int .i64 seq,.string name,.int .i64 length,.int .i64 group,.int .i64 row,.slice ao6 rows.1 cap6,.slice ao7 data.1 cap7,.slice ao8 delta.1 cap8]] w fun e w'=>e=.returned (.agg #[.int .i64 0,.int .i64 0,.string ByteArray.empty,.int .i64 0,.int .i64 group,.int .i64 row,.slice none 0 0,.slice none 0 0,.slice ao8 delta.1 cap8])∧Below w.heap.size w w':=by
 have B0:Below w.heap.size w ((w.alloc (.cells #[.int .i64 1,.int .i64 seq,.string name,.int .i64 length,.int .i64 group,.int .i64 row,.slice ao6 rows.1 cap6,.slice ao7 data.1 cap7,.slice ao8 delta.1 cap8] 56)).alloc (.cells #[.int .i64 0,.int .i64 0,.string ByteArray.empty,.int .i64 0,.int .i64 group,.int .i64 row,.slice none 0 0,.slice none 0 0,.slice ao8 delta.1 cap8] 56)):=((Below.refl _ _).alloc (Nat.le_refl _) _).alloc (by simp) _
 go_enter Tryz.func100,Tryz.ntmps100
 go_wp2;exact bodyPost_ret (v:=.agg #[.int .i64 0,.int .i64 0,.string ByteArray.empty,.int .i64 0,.int .i64 group,.int .i64 row,.slice none 0 0,.slice none 0 0,.slice ao8 delta.1 cap8]) (by simp [results,Tryz.results100,go_sem];try rfl) rfl ⟨rfl,B0⟩
theorem ziv (seq:Int) (name:ByteArray) (length group row:Int) (rows:Nat×(Nat→Int)) (data delta:Nat×(Nat→Nat)) (ao6 ao7 ao8:Option Addr) (cap6 cap7 cap8:Nat) (w:World) :
 Calls Tryz.prog 100 #[.agg #[.int .i64 2,.int .i64 seq,.string name,.int .i64 length,.int .i64 group,.int .i64 row,.slice ao6 rows.1 cap6,.slice ao7 data.1 cap7,.slice ao8 delta.1 cap8]] w fun e w'=>e=.returned (.agg #[.int .i64 0,.int .i64 0,.string name,.int .i64 length,.int .i64 0,.int .i64 0,.slice ao6 rows.1 cap6,.slice none 0 0,.slice none 0 0])∧Below w.heap.size w w':=by
 have B0:Below w.heap.size w ((w.alloc (.cells #[.int .i64 2,.int .i64 seq,.string name,.int .i64 length,.int .i64 group,.int .i64 row,.slice ao6 rows.1 cap6,.slice ao7 data.1 cap7,.slice ao8 delta.1 cap8] 56)).alloc (.cells #[.int .i64 0,.int .i64 0,.string name,.int .i64 length,.int .i64 0,.int .i64 0,.slice ao6 rows.1 cap6,.slice none 0 0,.slice none 0 0] 56)):=((Below.refl _ _).alloc (Nat.le_refl _) _).alloc (by simp) _
 go_enter Tryz.func100,Tryz.ntmps100
 go_wp2;exact bodyPost_ret (v:=.agg #[.int .i64 0,.int .i64 0,.string name,.int .i64 length,.int .i64 0,.int .i64 0,.slice ao6 rows.1 cap6,.slice none 0 0,.slice none 0 0]) (by simp [results,Tryz.results100,go_sem];try rfl) rfl ⟨rfl,B0⟩
theorem ziw (seq:Int) (name:ByteArray) (length group row:Int) (rows:Nat×(Nat→Int)) (data delta:Nat×(Nat→Nat)) (ao6 ao7 ao8:Option Addr) (cap6 cap7 cap8:Nat) (w:World) :
 Calls Tryz.prog 100 #[.agg #[.int .i64 3,.int .i64 seq,.string name,.int .i64 length,.int .i64 group,.int .i64 row,.slice ao6 rows.1 cap6,.slice ao7 data.1 cap7,.slice ao8 delta.1 cap8]] w fun e w'=>e=.returned (.agg #[.int .i64 0,.int .i64 0,.string name,.int .i64 length,.int .i64 0,.int .i64 row,.slice ao6 rows.1 cap6,.slice ao7 data.1 cap7,.slice ao8 delta.1 cap8])∧Below w.heap.size w w':=by
 have B0:Below w.heap.size w ((w.alloc (.cells #[.int .i64 3,.int .i64 seq,.string name,.int .i64 length,.int .i64 group,.int .i64 row,.slice ao6 rows.1 cap6,.slice ao7 data.1 cap7,.slice ao8 delta.1 cap8] 56)).alloc (.cells #[.int .i64 0,.int .i64 0,.string name,.int .i64 length,.int .i64 0,.int .i64 row,.slice ao6 rows.1 cap6,.slice ao7 data.1 cap7,.slice ao8 delta.1 cap8] 56)):=((Below.refl _ _).alloc (Nat.le_refl _) _).alloc (by simp) _
 go_enter Tryz.func100,Tryz.ntmps100
 go_wp2;exact bodyPost_ret (v:=.agg #[.int .i64 0,.int .i64 0,.string name,.int .i64 length,.int .i64 0,.int .i64 row,.slice ao6 rows.1 cap6,.slice ao7 data.1 cap7,.slice ao8 delta.1 cap8]) (by simp [results,Tryz.results100,go_sem];try rfl) rfl ⟨rfl,B0⟩
theorem zix (seq:Int) (name:ByteArray) (length group row:Int) (rows:Nat×(Nat→Int)) (data delta:Nat×(Nat→Nat)) (ao6 ao7 ao8:Option Addr) (cap6 cap7 cap8:Nat) (w:World) :
 Calls Tryz.prog 100 #[.agg #[.int .i64 4,.int .i64 seq,.string name,.int .i64 length,.int .i64 group,.int .i64 row,.slice ao6 rows.1 cap6,.slice ao7 data.1 cap7,.slice ao8 delta.1 cap8]] w fun e w'=>e=.returned (.agg #[.int .i64 0,.int .i64 0,.string name,.int .i64 length,.int .i64 0,.int .i64 0,.slice none 0 0,.slice none 0 0,.slice none 0 0])∧Below w.heap.size w w':=by
 have B0:Below w.heap.size w ((w.alloc (.cells #[.int .i64 4,.int .i64 seq,.string name,.int .i64 length,.int .i64 group,.int .i64 row,.slice ao6 rows.1 cap6,.slice ao7 data.1 cap7,.slice ao8 delta.1 cap8] 56)).alloc (.cells #[.int .i64 0,.int .i64 0,.string name,.int .i64 length,.int .i64 0,.int .i64 0,.slice none 0 0,.slice none 0 0,.slice none 0 0] 56)):=((Below.refl _ _).alloc (Nat.le_refl _) _).alloc (by simp) _
 go_enter Tryz.func100,Tryz.ntmps100
 go_wp2;exact bodyPost_ret (v:=.agg #[.int .i64 0,.int .i64 0,.string name,.int .i64 length,.int .i64 0,.int .i64 0,.slice none 0 0,.slice none 0 0,.slice none 0 0]) (by simp [results,Tryz.results100,go_sem];try rfl) rfl ⟨rfl,B0⟩
def zdq (kd sq ln gr rw_:Int) (nm:ByteArray) (n6 n7 n8:Nat):Prop:=kd=0∧sq=0∧zb7 nm ln gr rw_ n6 n7 n8
theorem zcl (kd sq ln gr rw_:Int) (nm:ByteArray) (ao6 ao7 ao8:Option Addr) (n6 n7 n8 cap6 cap7 cap8:Nat) (w:World) :
 Calls Tryz.prog 99 #[.agg #[.int .i64 kd,.int .i64 sq,.string nm,.int .i64 ln,.int .i64 gr,.int .i64 rw_,.slice ao6 n6 cap6,.slice ao7 n7 cap7,.slice ao8 n8 cap8]] w (zbK (zdq kd sq ln gr rw_ nm n6 n7 n8) w):=by
 have B0:Hid (Below w.heap.size w (w.alloc (.cells #[.int .i64 kd,.int .i64 sq,.string nm,.int .i64 ln,.int .i64 gr,.int .i64 rw_,.slice ao6 n6 cap6,.slice ao7 n7 cap7,.slice ao8 n8 cap8] 56))):=(Below.refl _ _).alloc (Nat.le_refl _) _;obtain ⟨b0,h0⟩:∃ b,(kd==0)=b:=⟨_,rfl⟩;obtain ⟨b1,h1⟩:∃ b,(sq==0)=b:=⟨_,rfl⟩;obtain ⟨b2,h2⟩:∃ b,(ln==0)=b:=⟨_,rfl⟩;obtain ⟨b3,h3⟩:∃ b,(gr==0)=b:=⟨_,rfl⟩;obtain ⟨b4,h4⟩:∃ b,(rw_==0)=b:=⟨_,rfl⟩;obtain ⟨b5,h5⟩:∃ b,nm.toList.isEmpty=b:=⟨_,rfl⟩;obtain ⟨b6,h6⟩:∃ b,((n6:Int)==0)=b:=⟨_,rfl⟩;obtain ⟨b7,h7⟩:∃ b,((n7:Int)==0)=b:=⟨_,rfl⟩;obtain ⟨b8,h8⟩:∃ b,((n8:Int)==0)=b:=⟨_,rfl⟩
 have HE:Hid (zdq kd sq ln gr rw_ nm n6 n7 n8↔(b0=true∧b1=true∧b2=true∧b3=true∧b4=true∧b5=true∧b6=true∧b7=true∧b8=true)):=by
  show zdq kd sq ln gr rw_ nm n6 n7 n8↔_
  rw [← h0,← h1,← h2,← h3,← h4,← h5,← h6,← h7,← h8,ziI];unfold zdq zb7
  simp
  intro _ _
  constructor
  ·rintro ⟨h2,h3,h4,h5,h6⟩
   exact ⟨h3,h4,h5,h2,h6⟩
  ·rintro ⟨h3,h4,h5,h2,h6⟩
   exact ⟨h2,h3,h4,h5,h6⟩
 have hs:(b0=false)∨(b0=true∧b1=false)∨(b0=true∧b1=true∧b2=false)∨(b0=true∧b1=true∧b2=true∧b3=false)∨(b0=true∧b1=true∧b2=true∧b3=true∧b4=false)∨(b0=true∧b1=true∧b2=true∧b3=true∧b4=true∧b5=false)∨(b0=true∧b1=true∧b2=true∧b3=true∧b4=true∧b5=true∧b6=false)∨(b0=true∧b1=true∧b2=true∧b3=true∧b4=true∧b5=true∧b6=true∧b7=false)∨(b0=true∧b1=true∧b2=true∧b3=true∧b4=true∧b5=true∧b6=true∧b7=true∧b8=false)∨(b0=true∧b1=true∧b2=true∧b3=true∧b4=true∧b5=true∧b6=true∧b7=true∧b8=true):=by
  clear HE h0 h1 h2 h3 h4 h5 h6 h7 h8
  cases b0<;>simp
  cases b1<;>simp
  cases b2<;>simp
  cases b3<;>simp
  cases b4<;>simp
  cases b5<;>simp
  cases b6<;>simp
  cases b7<;>simp
 go_enter Tryz.func99,Tryz.ntmps99
 rcases hs with rfl | ⟨rfl,rfl⟩ | ⟨rfl,rfl,rfl⟩ | ⟨rfl,rfl,rfl,rfl⟩ | ⟨rfl,rfl,rfl,rfl,rfl⟩ | ⟨rfl,rfl,rfl,rfl,rfl,rfl⟩ | ⟨rfl,rfl,rfl,rfl,rfl,rfl,rfl⟩ | ⟨rfl,rfl,rfl,rfl,rfl,rfl,rfl,rfl⟩ | ⟨rfl,rfl,rfl,rfl,rfl,rfl,rfl,rfl,rfl⟩ | ⟨rfl,rfl,rfl,rfl,rfl,rfl,rfl,rfl,rfl⟩
 all_goals
  go_wp2;go_ret
  first
   | exact zat rfl (fun h=>by have:=HE.out.1 h;simp at this) B0.out
   | exact zaI rfl (HE.out.2 (by simp)) B0.out
theorem zdr (y:Nat) (h:LetP y) (w:World):Calls Tryz.prog 139 #[.int .u8 y] w fun e w'=>e=.returned (.bool true)∧w'=w:=by
 unfold LetP at h;obtain ⟨h1,h2⟩:=h
 have t1:decide ((97:Int)≤(y:Int))=true:=by simp;omega
 have t2:decide ((y:Int)≤122)=true:=by simp;omega
 go_enter Tryz.func139,Tryz.ntmps139
 go_wp2;go_ret;exact ⟨rfl,rfl⟩
theorem zdZ (y:Nat) (h:¬ LetP y) (w:World):Calls Tryz.prog 139 #[.int .u8 y] w fun e w'=>e=.returned (.bool false)∧w'=w:=by
 unfold LetP at h
 by_cases h1:97≤y
 ·have h2:122<y:=by omega
  have t1:decide ((97:Int)≤(y:Int))=true:=by simp;omega
  have t2:decide ((y:Int)≤122)=false:=by simp;omega
  clear h
  go_enter Tryz.func139,Tryz.ntmps139
  go_wp2;go_ret;exact ⟨rfl,rfl⟩
 ·have t1:decide ((97:Int)≤(y:Int))=false:=by simp;omega
  clear h
  go_enter Tryz.func139,Tryz.ntmps139
  go_wp2;go_ret;exact ⟨rfl,rfl⟩
theorem zgD (y:Nat) (h:DigP y) (w:World):Calls Tryz.prog 140 #[.int .u8 y] w fun e w'=>e=.returned (.bool true)∧w'=w:=by
 unfold DigP at h;obtain ⟨h1,h2⟩:=h
 have t1:decide ((48:Int)≤(y:Int))=true:=by simp;omega
 have t2:decide ((y:Int)≤57)=true:=by simp;omega
 go_enter Tryz.func140,Tryz.ntmps140
 go_wp2;go_ret;exact ⟨rfl,rfl⟩
theorem zhA (y:Nat) (h:¬ DigP y) (w:World):Calls Tryz.prog 140 #[.int .u8 y] w fun e w'=>e=.returned (.bool false)∧w'=w:=by
 unfold DigP at h
 by_cases h1:48≤y
 ·have h2:57<y:=by omega
  have t1:decide ((48:Int)≤(y:Int))=true:=by simp;omega
  have t2:decide ((y:Int)≤57)=false:=by simp;omega
  clear h
  go_enter Tryz.func140,Tryz.ntmps140
  go_wp2;go_ret;exact ⟨rfl,rfl⟩
 ·have t1:decide ((48:Int)≤(y:Int))=false:=by simp;omega
  clear h
  go_enter Tryz.func140,Tryz.ntmps140
  go_wp2;go_ret;exact ⟨rfl,rfl⟩
theorem zfL (b:ByteArray) (hb:b.size≤1048576) (w:World) :
 Calls Tryz.prog 97 #[.string b] w fun e w'=>∃ x,e=.returned (.int .i64 x)∧zi7 b x∧w'=w:=by
 by_cases h1:1≤b.size
 ·have t1:decide ((b.size:Int)<1)=false:=by simp;omega
  have t1n:decide (b.size<1)=false:=decide_eq_false (by omega);have t1z:decide (b.size=0)=false:=decide_eq_false (by omega)
  by_cases h2:b.size≤8
  ·have t2:decide ((8:Int)<(b.size:Int))=false:=by simp;omega
   have t2n:decide (8<b.size)=false:=by simp;omega
   have hix:=zcM b 0 h1;have e0:((0:Nat):Int)=0:=rfl;rw [e0] at hix;obtain ⟨y,hy⟩:∃ y,y=zaJ b 0:=⟨_,rfl⟩;rw [← hy] at hix;have HY:=hid hy;clear e0 hy
   by_cases h3:LetP y
   ·have HL:Hid (LetP (zaJ b 0)):=by show LetP (zaJ b 0);rw [← HY.out];exact h3
    have CL:=zdr y h3;clear h3
    go_enter Tryz.func97,Tryz.ntmps97
    go_wp2_with fail
    refine (CL _).mono ?_;rintro e w1 ⟨rfl,rfl⟩;go_wp2
    go_loop [20] (fun i=>∃ k:Nat,k≤b.size∧i=.int .i64 k∧∀ i,i<k→LetP (zaJ b i)∨DigP (zaJ b i)) (fun i=>b.size-(intOf i).toNat)
    case atStart=>exact ⟨0,Nat.zero_le _,rfl,fun i hi=>by omega⟩
    case round=>
     obtain ⟨k,hk,rfl,hall⟩:=hrel;have HALL:=hid hall;clear hall
     by_cases hlt:k<b.size
     ·have hik:=zcM b k hlt
      obtain ⟨z,hz⟩:∃ z,z=zaJ b k:=⟨_,rfl⟩;rw [← hz] at hik;have HZ:=hid hz;clear hz CL
      by_cases c1:LetP z
      ·have HD:Hid (LetP (zaJ b k)):=by show LetP (zaJ b k);rw [← HZ.out];exact c1
       have C1:=zdr z c1;clear c1
       go_wp2_with fail
       refine (C1 _).mono ?_;rintro e w2 ⟨rfl,rfl⟩;go_wp2
       go_round
       case rel=>exact ⟨k+1,by omega,by go_num,fun i hi=>by
        by_cases c:i=k
        ·left;rw [c];exact HD.out
        ·exact HALL.out i (by omega)⟩
       case measure=>simp [intOf];omega
      ·have C1:=zdZ z c1
       by_cases c2:DigP z
       ·have HD:Hid (DigP (zaJ b k)):=by show DigP (zaJ b k);rw [← HZ.out];exact c2
        have C2:=zgD z c2;clear c1 c2
        go_wp2_with fail
        refine (C1 _).mono ?_;rintro e w2 ⟨rfl,rfl⟩
        go_wp2_with fail
        refine (C2 _).mono ?_;rintro e w3 ⟨rfl,rfl⟩;go_wp2
        go_round
        case rel=>exact ⟨k+1,by omega,by go_num,fun i hi=>by
         by_cases c:i=k
         ·right;rw [c];exact HD.out
         ·exact HALL.out i (by omega)⟩
        case measure=>simp [intOf];omega
       ·have HN:Hid (¬ zbT b):=fun h=>by
         have:=h.2.2.2 k hlt;rw [← HZ.out] at this;exact this.elim c1 c2
        have C2:=zhA z c2;clear c1 c2
        go_wp2_with fail
        refine (C1 _).mono ?_;rintro e w2 ⟨rfl,rfl⟩
        go_wp2_with fail
        refine (C2 _).mono ?_;rintro e w3 ⟨rfl,rfl⟩;go_wp2;go_ret;exact ⟨5,rfl,.inl ⟨rfl,HN.out⟩,rfl⟩
     ·obtain rfl:k=b.size:=by omega
      have HY2:Hid (zbT b):=⟨h1,h2,HL.out,HALL.out⟩;go_wp2;go_ret;exact ⟨0,rfl,.inr ⟨rfl,HY2.out⟩,rfl⟩
   ·have HN:Hid (¬ zbT b):=fun h=>by have:=h.2.2.1;rw [← HY.out] at this;exact h3 this
    have CL:=zdZ y h3;clear h3
    go_enter Tryz.func97,Tryz.ntmps97
    go_wp2_with fail
    refine (CL _).mono ?_;rintro e w1 ⟨rfl,rfl⟩;go_wp2;go_ret;exact ⟨5,rfl,.inl ⟨rfl,HN.out⟩,rfl⟩
  ·have HN:Hid (¬ zbT b):=fun h=>h2 h.2.1
   have t2:decide ((8:Int)<(b.size:Int))=true:=by simp;omega
   have t2i:(8:Int)<(b.size:Int):=by omega
   clear h2
   go_enter Tryz.func97,Tryz.ntmps97
   go_wp2;go_ret;exact ⟨5,rfl,.inl ⟨rfl,HN.out⟩,rfl⟩
 ·have HN:Hid (¬ zbT b):=fun h=>h1 h.1
  have t1:decide ((b.size:Int)<1)=true:=by simp;omega
  have t1i:(b.size:Int)<1:=by omega
  clear h1
  go_enter Tryz.func97,Tryz.ntmps97
  go_wp2;go_ret;exact ⟨5,rfl,.inl ⟨rfl,HN.out⟩,rfl⟩
end Go.Proofs.YtonemlgejkapbaaGreat
