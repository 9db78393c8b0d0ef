/- Walk of the specification's WorldFault where the form of a world has no fault; and whole. -/
import Derived.Test.YtfhgcadinjfooaaGreatZPgroupag
set_option linter.unusedVariables false
set_option linter.unusedSimpArgs false
set_option maxHeartbeats 16000000
namespace Go.Proofs.YtfhgcadinjfooaaGreat
open Go.RowKit F256
set_option maxRecDepth 20000 in
theorem zgS (d:WorldD) (cs:List Value) (hi:Nat) (w:World) (h:zaf.rd w hi d cs) (hhi:hi≤w.heap.size) (hnm:∀ t,t<d.tapes.1→∀ i,i<(d.tapes.2 t).recs.1→((d.tapes.2 t).recs.2 i).name.size≤1048576) (hok':zaj d.shape) (hsel:zcb d) :
 Calls Tryz.prog 12 #[.agg cs.toArray] w (zcB d w):=by
 obtain ⟨ao1,cap1,ao2,cap2,ao3,cap3,rfl,g1,g2,g3,-⟩:=zaz h;have HRD:=hid h;obtain ⟨v2,e2,⟨h2,hcp2⟩,_⟩:=g2
 cases e2
 have H2:=hid h2;have HCP:=hid hcp2;have hm2:=h2.mx;obtain ⟨_,_,e3,hm3,hc3⟩:=g3
 cases e3
 unfold maxLen at hm2 hm3;have HC3:=hid hc3;have HNM:=hid hnm;clear h h2 hcp2 hc3 g1 hnm;have T0:=zaw w (rwW d ao1 cap1 ao2 cap2 ao3 cap3).toArray 35;have CSh:=fun w'=>za4 d.shape w';unfold zad at CSh
 go_enter Tryz.func12,Tryz.ntmps12
 go_wp2_with fail
 refine (CSh _).mono ?_;rintro e w1 ⟨x,rfl,hx,b1⟩;have T1:One w w1 (rwW d ao1 cap1 ao2 cap2 ao3 cap3).toArray 35:=T0.call b1;have HT1:=hid T1;clear b1 T0 CSh;have x1_0:w1.cell? ⟨w.heap.size,0,none⟩=some (.int .i64 (d.shape 0)):=T1.b1.cell 0;have kx1_0:=cell_regrown x1_0;have x1_1:w1.cell? ⟨w.heap.size,1,none⟩=some (.int .i64 (d.shape 1)):=T1.b1.cell 1;have kx1_1:=cell_regrown x1_1;have x1_2:w1.cell? ⟨w.heap.size,2,none⟩=some (.int .i64 (d.shape 2)):=T1.b1.cell 2;have kx1_2:=cell_regrown x1_2;have x1_3:w1.cell? ⟨w.heap.size,3,none⟩=some (.int .i64 (d.shape 3)):=T1.b1.cell 3;have kx1_3:=cell_regrown x1_3;have x1_4:w1.cell? ⟨w.heap.size,4,none⟩=some (.int .i64 (d.shape 4)):=T1.b1.cell 4;have kx1_4:=cell_regrown x1_4;have x1_5:w1.cell? ⟨w.heap.size,5,none⟩=some (.int .i64 (d.shape 5)):=T1.b1.cell 5;have kx1_5:=cell_regrown x1_5;have x1_6:w1.cell? ⟨w.heap.size,6,none⟩=some (.int .i64 (d.shape 6)):=T1.b1.cell 6;have kx1_6:=cell_regrown x1_6;have x1_7:w1.cell? ⟨w.heap.size,7,none⟩=some (.int .i64 (d.shape 7)):=T1.b1.cell 7;have kx1_7:=cell_regrown x1_7;have x1_8:w1.cell? ⟨w.heap.size,8,none⟩=some (.int .i64 (d.shape 8)):=T1.b1.cell 8;have kx1_8:=cell_regrown x1_8;have x1_9:w1.cell? ⟨w.heap.size,9,none⟩=some (.slice ao1 d.groups.1 cap1):=T1.b1.cell 9;have kx1_9:=cell_regrown x1_9;have x1_10:w1.cell? ⟨w.heap.size,10,none⟩=some (.slice ao2 d.on.1 cap2):=T1.b1.cell 10;have kx1_10:=cell_regrown x1_10;have x1_11:w1.cell? ⟨w.heap.size,11,none⟩=some (.slice ao3 d.tapes.1 cap3):=T1.b1.cell 11;have kx1_11:=cell_regrown x1_11;have x1_12:w1.cell? ⟨w.heap.size,12,none⟩=some (.int .i64 d.writes):=T1.b1.cell 12;have kx1_12:=cell_regrown x1_12;have x1_13:w1.cell? ⟨w.heap.size,13,none⟩=some (.int .i64 d.stop):=T1.b1.cell 13;have kx1_13:=cell_regrown x1_13;have x1_14:w1.cell? ⟨w.heap.size,14,none⟩=some (.bool d.down):=T1.b1.cell 14;have kx1_14:=cell_regrown x1_14;clear T1
 rcases hx with ⟨rfl,hno⟩ | ⟨rfl,hok⟩
 ·go_wp2
  go_ret;exact wldP rfl (Stair.fall hno) HT1.out.bel
 have HOK:=hid hok
 have hsb:1≤d.shape 0∧d.shape 0≤4∧0≤d.shape 1∧d.shape 1≤2:=by
  obtain ⟨h1,_⟩:=hok;unfold Shp3 at h1;omega
 clear hok;obtain ⟨t1,h1⟩:=exB (zcj d);obtain ⟨t2,h2⟩:=exB (zbB d.on.1 d.on.2 (d.shape 0+d.shape 1-1));obtain ⟨b3',h3⟩:∃ b,decide (d.shape 5<(d.on.1:Int))=b:=⟨_,rfl⟩;obtain ⟨g',h4⟩:∃ b,decide (0<d.on.1)=b:=⟨_,rfl⟩;obtain ⟨b5',h5⟩:∃ b,((d.tapes.1:Int) != 2)=b:=⟨_,rfl⟩;have c1:=zas (W:=w1) (fun w' hw'=>zbo (zcg d HOK.out _ hi w' (zaf.rd_below (zaf.rd_below HRD.out HT1.out.bel hhi) hw' (Nat.le_trans hhi HT1.out.bel.size)) (Nat.le_trans hhi (Nat.le_trans HT1.out.bel.size hw'.size))) h1);have c2:=zas (W:=w1) (fun w' hw'=>zbo (zbT _ d.on.1 d.on.2 hi (d.shape 0+d.shape 1-1) w' ((H2.out.below HT1.out.bel hhi).below hw' (Nat.le_trans hhi HT1.out.bel.size)) HCP.out (Nat.le_trans hhi (Nat.le_trans HT1.out.bel.size hw'.size))) h2);have cA:=zas (W:=w1) (fun w' _=>zbk d.shape HOK.out w');unfold zad at cA
 have wsA:IntKind.i64.wrap (d.shape 0+d.shape 1-1)=d.shape 0+d.shape 1-1:=by rw [IntKind.wrap_i64];omega
 have h4':decide (0<(d.on.1:Int))=g':=by rw [← h4];simp
 obtain ⟨dn,hdn⟩:∃ x,x=d.down:=⟨_,rfl⟩
 have HE:Hid (zcb d↔(t1=true∧t2=true∧b3'=false∧(dn=true→g'=false)∧b5'=false)):=by
  show zcb d↔_
  have e3:(decide (d.shape 5<(d.on.1:Int))=false)↔(d.on.1:Int)≤d.shape 5:=by simp
  have e4:(decide (0<d.on.1)=false)↔d.on.1=0:=by simp
  have e5:(((d.tapes.1:Int) != 2)=false)↔d.tapes.1=2:=by simp;omega
  rw [h1,h2,← h3,← h4,← h5,hdn,e3,e4,e5];unfold zcb OnP
  constructor
  ·rintro ⟨a,⟨b,c,e⟩,f⟩
   exact ⟨a,b,c,e,f⟩
  ·rintro ⟨a,b,c,e,f⟩
   exact ⟨a,⟨b,c,e⟩,f⟩
 have hst:(t1=true∧t2=true∧b3'=false∧dn=true∧g'=false∧b5'=false)∨(t1=true∧t2=true∧b3'=false∧dn=false∧b5'=false):=by
  obtain ⟨a1,a2,a3,a4,a5⟩:=HE.out.1 hsel
  cases dn with
  | true=>exact .inl ⟨a1,a2,a3,rfl,a4 rfl,a5⟩
  | false=>exact .inr ⟨a1,a2,a3,rfl,a5⟩
 have HFM:=hid hsel;have htp:d.tapes.1=2:=hsel.2.2;have HTP:=hid htp;rw [← hdn] at x1_14 kx1_14 c1;clear h1 h2 hsel hok' htp HE
 go_upto_region 4 with fail
 go_cut [51] (fun v wx=>v=.bool false∧Below w1.heap.size w1 wx)
 case first=>
  clear hdn
  rcases hst with ⟨rfl,rfl,rfl,rfl,rfl,rfl⟩ | ⟨rfl,rfl,rfl,rfl,rfl⟩
  all_goals
   refine WQ.region (by kernel_rfl) (by kernel_rfl) ?_
   repeat (first | (apply WQ.free;(case hw=>rfl);intro K hK;go_simp;first | (apply hK;clear hK K) | (apply Exists.intro;apply And.intro;(case left=>intro p;(first | (go_at_call 29;exact c1 _ _) | (go_at_call 30;exact c2 _ _) | (go_at_call 31;exact cA _ _)));apply hK;clear hK K)) | (apply WQ.skip;(case hw=>rfl);intro K hK;go_simp;apply hK;clear hK K) | (apply WQ.want;(case hw=>rfl);intro K hK;go_simp;first | (apply hK;clear hK K) | (apply Exists.intro;apply And.intro;(case left=>intro p;(first | (go_at_call 29;exact c1 _ _) | (go_at_call 30;exact c2 _ _) | (go_at_call 31;exact cA _ _)));apply hK;clear hK K)))
   refine WQ.nil ?_;intro w2 hw2;have HB2:=hid (zaB hw2);clear hw2;go_wp2
   go_meet
   exact ⟨rfl,HB2.out⟩
 case rest=>
  obtain ⟨rfl,b2⟩:=hcut;obtain ⟨w2,rfl⟩:∃ x,x=wc:=⟨_,rfl⟩;have T2:One w w2 (rwW d ao1 cap1 ao2 cap2 ao3 cap3).toArray 35:=HT1.out.call b2
  rw [hdn] at *
  clear x1_0 kx1_0 x1_1 kx1_1 x1_2 kx1_2 x1_3 kx1_3 x1_4 kx1_4 x1_5 kx1_5 x1_6 kx1_6 x1_7 kx1_7 x1_8 kx1_8 x1_9 kx1_9 x1_10 kx1_10 x1_11 kx1_11 x1_12 kx1_12 x1_13 kx1_13 x1_14 kx1_14 c1 c2 cA hst h3 h4 h4' h5 b2 HT1 wsA hdn;obtain ⟨b3,off3,he3,hb3,hel3⟩:=HC3.out (by have:=HTP.out;omega);subst he3;have HT2:=hid T2;have HEL:=hid hel3;obtain ⟨ce0,hr0,hce0⟩:=zat (t:=0) hel3 T2.bel hhi hb3 (show 0<d.tapes.1 by have:=HTP.out;omega);obtain ⟨ce1,hr1,hce1⟩:=zat (t:=0) hel3 T2.bel hhi hb3 (show 1<d.tapes.1 by have:=HTP.out;omega);obtain ⟨ap0,cp0,rfl,gt0⟩:=zba hr0;obtain ⟨ap1,cp1,rfl,gt1⟩:=zba hr1
  have hl0:(d.tapes.2 0).recs.1≤maxLen:=by obtain ⟨_,_,_,h,_⟩:=gt0;exact h
  have hl1:(d.tapes.2 1).recs.1≤maxLen:=by obtain ⟨_,_,_,h,_⟩:=gt1;exact h
  unfold maxLen at hl0 hl1
  have q0:w2.cell? ⟨b3,off3+1,none⟩=some (.slice ap0 (d.tapes.2 0).recs.1 cp0):=by
   have:=hce0 1 (by decide)
   simpa using this
  have q1:w2.cell? ⟨b3,off3+2+1,none⟩=some (.slice ap1 (d.tapes.2 1).recs.1 cp1):=hce1 1 (by decide);have q1':w2.cell? ⟨b3,off3+3,none⟩=some (.slice ap1 (d.tapes.2 1).recs.1 cp1):=hce1 1 (by decide);have x2_11:w2.cell? ⟨w.heap.size,11,none⟩=some (.slice (some ⟨b3,off3,none⟩) d.tapes.1 cap3):=T2.b1.cell 11;obtain ⟨f0,k0⟩:∃ b,decide (200<(d.tapes.2 0).recs.1)=b:=⟨_,rfl⟩;obtain ⟨f1,k1⟩:∃ b,decide (200<(d.tapes.2 1).recs.1)=b:=⟨_,rfl⟩
  have k0':decide (200<((d.tapes.2 0).recs.1:Int))=f0:=by rw [← k0];congr 1;apply propext;omega
  have k1':decide (200<((d.tapes.2 1).recs.1:Int))=f1:=by rw [← k1];congr 1;apply propext;omega
  clear hce0 hce1 hr0 hr1 gt0 gt1 hel3 T2
  have hge:2≤d.tapes.1:=by have:=HTP.out;omega
  have hle:d.tapes.1≤2:=by have:=HTP.out;omega
  have HF0:Hid (f0=false→(d.tapes.2 0).recs.1≤200):=fun e=>by rw [← k0] at e;simpa using e
  have HF1:Hid (f1=false→(d.tapes.2 1).recs.1≤200):=fun e=>by rw [← k1] at e;simpa using e
  have HG0:Hid (f0=true→¬ (d.tapes.2 0).recs.1≤200):=fun e=>by rw [← k0] at e;simpa using e
  have HG1:Hid (f1=true→¬ (d.tapes.2 1).recs.1≤200):=fun e=>by rw [← k1] at e;simpa using e
  cases f0 with
  | true=>
   go_wp2;go_ret;exact wldP rfl (Stair.pass HOK.out (Stair.pass HFM.out (Stair.fall (fun h=>HG0.out (by simp) (h 0 (by omega)))))) HT2.out.bel
  | false=>
  cases f1 with
  | true=>
   go_wp2;go_ret;exact wldP rfl (Stair.pass HOK.out (Stair.pass HFM.out (Stair.fall (fun h=>HG1.out (by simp) (h 1 (by omega)))))) HT2.out.bel
  | false=>
  have HFW:Hid (FewP d):=fun t ht=>by
   by_cases c:t=0
   ·subst c;exact HF0.out (by simp)
   ·obtain rfl:t=1:=by omega
    exact HF1.out (by simp)
  go_wp2;clear k0 k1 k0' k1' HF0 HF1 HG0 HG1 q0 q1 q1' x2_11 hl0 hl1
  go_loopw [4] (fun v wr=>∃ t:Nat,t≤d.tapes.1∧v=.int .i64 t∧(∀ u,u<t→∀ k,k<(d.tapes.2 u).recs.1→RecAns d.shape ((d.tapes.2 u).recs.2 k) 0)∧One w wr (rwW d ao1 cap1 ao2 cap2 (some ⟨b3,off3,none⟩) cap3).toArray 35) (fun v _=>d.tapes.1-(intOf v).toNat)
  case atStart=>exact ⟨0,Nat.zero_le _,rfl,fun i hi=>by omega,HT2.out⟩
  case round=>
   clear HT2;obtain ⟨t,ht,rfl,hal,T3⟩:=hrel;obtain ⟨wo,rfl⟩:∃ x,x=wr:=⟨_,rfl⟩;have HAL:=hid hal;have HT3:=hid T3;clear hal
   by_cases hlt:t<d.tapes.1
   ·have zo:w.heap.size<wo.heap.size:=T3.b1.lt
    have hd2:decide ((t:Int)<2)=true:=decide_eq_true (by omega);clear T3;go_wp2
    go_loopw [5] (fun v wx=>∃ i:Nat,i≤(d.tapes.2 t).recs.1∧v=.int .i64 i∧(∀ k,k<i→RecAns d.shape ((d.tapes.2 t).recs.2 k) 0)∧One w wx (rwW d ao1 cap1 ao2 cap2 (some ⟨b3,off3,none⟩) cap3).toArray 35) (fun v _=>(d.tapes.2 t).recs.1-(intOf v).toNat)
    case atStart=>exact ⟨0,Nat.zero_le _,rfl,fun i hi=>by omega,HT3.out⟩
    case round=>
     clear HT3;obtain ⟨i,hi',rfl,hal2,T4⟩:=hrel;obtain ⟨wx,rfl⟩:∃ x,x=wr:=⟨_,rfl⟩;have HAL2:=hid hal2;have HT4:=hid T4;have zx:w.heap.size<wx.heap.size:=T4.b1.lt;clear hal2;obtain ⟨ct,hrt,hct⟩:=zat (t:=0) HEL.out T4.bel hhi hb3 hlt;obtain ⟨ap,cp,rfl,gt⟩:=zba hrt;have c1:wx.cell? ⟨b3,off3+t*2+1,none⟩=some (.slice ap (d.tapes.2 t).recs.1 cp):=hct 1 (by decide);obtain ⟨_,_,et,hmt,hct'⟩:=gt
     cases et
     unfold maxLen at hmt;have HCT:=hid hct';have x5_11:wx.cell? ⟨w.heap.size,11,none⟩=some (.slice (some ⟨b3,off3,none⟩) d.tapes.1 cap3):=T4.b1.cell 11;clear hct hrt hct'
     by_cases hli:i<(d.tapes.2 t).recs.1
     ·obtain ⟨b6,off6,he6,hb6,hel6⟩:=HCT.out (by omega)
      subst he6;obtain ⟨cr,hrr,hcr⟩:=hel6 i hli;obtain ⟨ro6,rc6,ro7,rc7,ro8,rc8,rfl,-⟩:=zbz hrr;have r0:wx.cell? ⟨b6,off6+i*9,none⟩=some (.int .i64 ((d.tapes.2 t).recs.2 i).kind):=hcr 0 (by decide);have kr0:=cell_regrown r0;have r1:wx.cell? ⟨b6,off6+i*9+1,none⟩=some (.int .i64 ((d.tapes.2 t).recs.2 i).seq):=hcr 1 (by decide);have kr1:=cell_regrown r1;have r2:wx.cell? ⟨b6,off6+i*9+2,none⟩=some (.string ((d.tapes.2 t).recs.2 i).name):=hcr 2 (by decide);have kr2:=cell_regrown r2;have r3:wx.cell? ⟨b6,off6+i*9+3,none⟩=some (.int .i64 ((d.tapes.2 t).recs.2 i).length):=hcr 3 (by decide);have kr3:=cell_regrown r3;have r4:wx.cell? ⟨b6,off6+i*9+4,none⟩=some (.int .i64 ((d.tapes.2 t).recs.2 i).group):=hcr 4 (by decide);have kr4:=cell_regrown r4;have r5:wx.cell? ⟨b6,off6+i*9+5,none⟩=some (.int .i64 ((d.tapes.2 t).recs.2 i).row):=hcr 5 (by decide);have kr5:=cell_regrown r5;have r6:wx.cell? ⟨b6,off6+i*9+6,none⟩=some (.slice ro6 ((d.tapes.2 t).recs.2 i).rows.1 rc6):=hcr 6 (by decide);have kr6:=cell_regrown r6;have r7:wx.cell? ⟨b6,off6+i*9+7,none⟩=some (.slice ro7 ((d.tapes.2 t).recs.2 i).data.1 rc7):=hcr 7 (by decide);have kr7:=cell_regrown r7;have r8:wx.cell? ⟨b6,off6+i*9+8,none⟩=some (.slice ro8 ((d.tapes.2 t).recs.2 i).delta.1 rc8):=hcr 8 (by decide);have kr8:=cell_regrown r8;have HRR:=hid hrr;obtain ⟨X,hX⟩:∃ X,RecAns d.shape ((d.tapes.2 t).recs.2 i) X:=zeZ (K:=isZ) ⟨0,rfl⟩ _;have HX:=hid hX;have kx5_11:=cell_regrown x5_11;have kc1:=cell_regrown c1;have x5_0:wx.cell? ⟨w.heap.size,0,none⟩=some (.int .i64 (d.shape 0)):=T4.b1.cell 0;have kx5_0:=cell_regrown x5_0;have x5_1:wx.cell? ⟨w.heap.size,1,none⟩=some (.int .i64 (d.shape 1)):=T4.b1.cell 1;have kx5_1:=cell_regrown x5_1;have x5_2:wx.cell? ⟨w.heap.size,2,none⟩=some (.int .i64 (d.shape 2)):=T4.b1.cell 2;have kx5_2:=cell_regrown x5_2;have x5_3:wx.cell? ⟨w.heap.size,3,none⟩=some (.int .i64 (d.shape 3)):=T4.b1.cell 3;have kx5_3:=cell_regrown x5_3;have x5_4:wx.cell? ⟨w.heap.size,4,none⟩=some (.int .i64 (d.shape 4)):=T4.b1.cell 4;have kx5_4:=cell_regrown x5_4;have x5_5:wx.cell? ⟨w.heap.size,5,none⟩=some (.int .i64 (d.shape 5)):=T4.b1.cell 5;have kx5_5:=cell_regrown x5_5;have x5_6:wx.cell? ⟨w.heap.size,6,none⟩=some (.int .i64 (d.shape 6)):=T4.b1.cell 6;have kx5_6:=cell_regrown x5_6;have x5_7:wx.cell? ⟨w.heap.size,7,none⟩=some (.int .i64 (d.shape 7)):=T4.b1.cell 7
      have kx5_7:=cell_regrown x5_7;have x5_8:wx.cell? ⟨w.heap.size,8,none⟩=some (.int .i64 (d.shape 8)):=T4.b1.cell 8;have kx5_8:=cell_regrown x5_8;have CR:=zas (W:=wx) (fun w' hw'=>ziO HX.out (zgG d.shape ((d.tapes.2 t).recs.2 i) _ hi w' (zan.rd_below HRR.out hw' (by omega)) (Nat.le_trans (by omega) hw'.size) (HNM.out t hlt i hli)));unfold zad at CR;clear hel6 hcr hrr T4 hX
      go_upto_region 14 with fail
      refine WQ.region (by kernel_rfl) (by kernel_rfl) ?_
      repeat (first | (apply WQ.skip;(case hw=>rfl);intro K hK;go_simp;apply hK;clear hK K) | (apply WQ.want;(case hw=>rfl);intro K hK;go_simp;first | (apply hK;clear hK K) | (apply Exists.intro;apply And.intro;(case left=>intro p;(first | (go_at_call 32;exact CR _ _)));apply hK;clear hK K)))
      refine WQ.nil ?_;intro w6 hw6;have HT6:=hid (HT4.out.call (zaB hw6));clear hw6 CR r0 kr0 x5_0 kx5_0 r1 kr1 x5_1 kx5_1 r2 kr2 x5_2 kx5_2 r3 kr3 x5_3 kx5_3 r4 kr4 x5_4 kx5_4 r5 kr5 x5_5 kx5_5 r6 kr6 x5_6 kx5_6 r7 kr7 x5_7 kx5_7 r8 kr8 x5_8 kx5_8 x5_11 kx5_11 c1 kc1
      by_cases hx0:X=0
      ·subst hx0
       go_wp2
       go_roundw
       case rel=>exact ⟨i+1,by omega,by go_num,fun k hk=>by
        by_cases c:k=i
        ·subst c;exact HX.out
        ·exact HAL2.out k (by omega),HT6.out⟩
       case measure=>simp [intOf];omega
      ·have hne:(X != 0)=true:=by simp [hx0]
       go_wp2;go_ret;exact wldP rfl (Stair.pass HOK.out (Stair.pass HFM.out (Stair.pass HFW.out (Stair.last (.inl ⟨hx0,.inr ⟨hx0,t,i,hlt,hli,HX.out,HAL2.out,HAL.out⟩⟩))))) HT6.out.bel
     ·obtain rfl:i=(d.tapes.2 t).recs.1:=by omega
      clear T4;go_wp2
      go_roundw
      case rel=>exact ⟨t+1,by omega,by go_num,fun u hu=>by
       by_cases c:u=t
       ·subst c;exact HAL2.out
       ·exact HAL.out u (by omega),HT4.out⟩
      case measure=>simp [intOf];omega
   ·obtain rfl:t=d.tapes.1:=by omega
    clear T3;have HRA:Hid (RecsAns d.shape d.tapes.1 d.tapes.2 0):=.inl ⟨rfl,HAL.out⟩;go_wp2
    go_loop [7] (fun v=>∃ t:Nat,t≤d.tapes.1∧v=.int .i64 t∧∀ u,u<t→(d.tapes.2 u).wiped=true→(d.tapes.2 u).recs.1=0) (fun v=>d.tapes.1-(intOf v).toNat)
    case atStart=>exact ⟨0,Nat.zero_le _,rfl,fun i hi=>by omega⟩
    case round=>
     obtain ⟨t,ht,rfl,hal⟩:=hrel;have HAL3:=hid hal;clear hal
     by_cases hlt:t<d.tapes.1
     ·obtain ⟨ct,hrt,hct⟩:=zat (t:=0) HEL.out HT3.out.bel hhi hb3 hlt
      obtain ⟨ap,cp,rfl,gt⟩:=zba hrt;have c0:wo.cell? ⟨b3,off3+t*2,none⟩=some (.bool (d.tapes.2 t).wiped):=hct 0 (by decide);have c1:wo.cell? ⟨b3,off3+t*2+1,none⟩=some (.slice ap (d.tapes.2 t).recs.1 cp):=hct 1 (by decide);have x5_11:wo.cell? ⟨w.heap.size,11,none⟩=some (.slice (some ⟨b3,off3,none⟩) d.tapes.1 cap3):=HT3.out.b1.cell 11;obtain ⟨u,hu⟩:∃ u,u=(d.tapes.2 t).wiped:=⟨_,rfl⟩;obtain ⟨g,hg⟩:∃ b,decide (0<(d.tapes.2 t).recs.1)=b:=⟨_,rfl⟩
      have hg':decide (0<((d.tapes.2 t).recs.1:Int))=g:=by rw [← hg];simp
      rw [← hu] at c0
      have HE3:Hid (((d.tapes.2 t).wiped=true→(d.tapes.2 t).recs.1=0)↔(u=true→g=false)):=by
       show _↔_
       rw [← hu,← hg]
       simp
      clear hct hrt gt hu
      cases u with
      | false=>
       go_wp2
       go_round
       case rel=>exact ⟨t+1,by omega,by go_num,fun u hu=>by
        by_cases c:u=t
        ·subst c;exact HE3.out.2 (by simp)
        ·exact HAL3.out u (by omega)⟩
       case measure=>simp [intOf];omega
      | true=>
       cases g with
       | false=>
        go_wp2
        go_round
        case rel=>exact ⟨t+1,by omega,by go_num,fun u hu=>by
         by_cases c:u=t
         ·subst c;exact HE3.out.2 (by simp)
         ·exact HAL3.out u (by omega)⟩
        case measure=>simp [intOf];omega
       | true=>
        go_wp2;go_ret;exact wldP rfl (Stair.pass HOK.out (Stair.pass HFM.out (Stair.pass HFW.out (Stair.last (.inr ⟨HRA.out,Stair.fall (fun h=>by have:=HE3.out.1 (h t hlt);simp at this)⟩))))) HT3.out.bel
     ·obtain rfl:t=d.tapes.1:=by omega
      have HCL:=hid HAL3.out;have x5_12:wo.cell? ⟨w.heap.size,12,none⟩=some (.int .i64 d.writes):=HT3.out.b1.cell 12;have x5_13:wo.cell? ⟨w.heap.size,13,none⟩=some (.int .i64 d.stop):=HT3.out.b1.cell 13;obtain ⟨t1,h1⟩:=exB (InP d.writes 0 1000000000);obtain ⟨t2,h2⟩:=exB (InP d.stop (-1) 1000000000);have C1:=fun w'=>zbE (w:=w') h1;have C2:=fun w'=>zbE (w:=w') h2
      have HE4:Hid (zhe d↔(t1=true∧t2=true)):=by
       show zhe d↔_
       rw [h1,h2];exact Iff.rfl
      clear h1 h2
      go_wp2_with fail
      refine (C1 _).mono ?_;rintro e w' ⟨rfl,hw'⟩;obtain rfl:=hw'.symm;clear C1
      cases t1 with
      | false=>
       go_wp2;go_ret;exact wldP rfl (Stair.pass HOK.out (Stair.pass HFM.out (Stair.pass HFW.out (Stair.last (.inr ⟨HRA.out,Stair.pass HCL.out (Stair.fall (fun h=>by have:=HE4.out.1 h;simp at this))⟩))))) HT3.out.bel
      | true=>
       go_wp2_with fail
       refine (C2 _).mono ?_;rintro e w' ⟨rfl,hw'⟩;obtain rfl:=hw'.symm;clear C2
       cases t2 with
       | false=>
        go_wp2;go_ret;exact wldP rfl (Stair.pass HOK.out (Stair.pass HFM.out (Stair.pass HFW.out (Stair.last (.inr ⟨HRA.out,Stair.pass HCL.out (Stair.fall (fun h=>by have:=HE4.out.1 h;simp at this))⟩))))) HT3.out.bel
       | true=>
        go_wp2;go_ret;exact wldP rfl (Stair.pass HOK.out (Stair.pass HFM.out (Stair.pass HFW.out (Stair.last (.inr ⟨HRA.out,Stair.pass HCL.out (Stair.pass (HE4.out.2 (by simp)) (Stair.last rfl))⟩))))) HT3.out.bel
set_option maxRecDepth 20000 in
theorem zgT (d:WorldD) (cs:List Value) (hi:Nat) (w:World) (h:zaf.rd w hi d cs) (hhi:hi≤w.heap.size) (hnm:∀ t,t<d.tapes.1→∀ i,i<(d.tapes.2 t).recs.1→((d.tapes.2 t).recs.2 i).name.size≤1048576) (hok':¬ zaj d.shape) :
 Calls Tryz.prog 12 #[.agg cs.toArray] w (zcB d w):=by
 obtain ⟨ao1,cap1,ao2,cap2,ao3,cap3,rfl,g1,g2,g3,-⟩:=zaz h;have HRD:=hid h;obtain ⟨v2,e2,⟨h2,hcp2⟩,_⟩:=g2
 cases e2
 have H2:=hid h2;have HCP:=hid hcp2;have hm2:=h2.mx;obtain ⟨_,_,e3,hm3,hc3⟩:=g3
 cases e3
 unfold maxLen at hm2 hm3;have HC3:=hid hc3;have HNM:=hid hnm;clear h h2 hcp2 hc3 g1 hnm;have T0:=zaw w (rwW d ao1 cap1 ao2 cap2 ao3 cap3).toArray 35;have CSh:=fun w'=>za4 d.shape w';unfold zad at CSh
 go_enter Tryz.func12,Tryz.ntmps12
 go_wp2_with fail
 refine (CSh _).mono ?_;rintro e w1 ⟨x,rfl,hx,b1⟩;have T1:One w w1 (rwW d ao1 cap1 ao2 cap2 ao3 cap3).toArray 35:=T0.call b1;have HT1:=hid T1;clear b1 T0 CSh;have x1_0:w1.cell? ⟨w.heap.size,0,none⟩=some (.int .i64 (d.shape 0)):=T1.b1.cell 0;have kx1_0:=cell_regrown x1_0;have x1_1:w1.cell? ⟨w.heap.size,1,none⟩=some (.int .i64 (d.shape 1)):=T1.b1.cell 1;have kx1_1:=cell_regrown x1_1;have x1_2:w1.cell? ⟨w.heap.size,2,none⟩=some (.int .i64 (d.shape 2)):=T1.b1.cell 2;have kx1_2:=cell_regrown x1_2;have x1_3:w1.cell? ⟨w.heap.size,3,none⟩=some (.int .i64 (d.shape 3)):=T1.b1.cell 3;have kx1_3:=cell_regrown x1_3;have x1_4:w1.cell? ⟨w.heap.size,4,none⟩=some (.int .i64 (d.shape 4)):=T1.b1.cell 4;have kx1_4:=cell_regrown x1_4;have x1_5:w1.cell? ⟨w.heap.size,5,none⟩=some (.int .i64 (d.shape 5)):=T1.b1.cell 5;have kx1_5:=cell_regrown x1_5;have x1_6:w1.cell? ⟨w.heap.size,6,none⟩=some (.int .i64 (d.shape 6)):=T1.b1.cell 6;have kx1_6:=cell_regrown x1_6;have x1_7:w1.cell? ⟨w.heap.size,7,none⟩=some (.int .i64 (d.shape 7)):=T1.b1.cell 7;have kx1_7:=cell_regrown x1_7;have x1_8:w1.cell? ⟨w.heap.size,8,none⟩=some (.int .i64 (d.shape 8)):=T1.b1.cell 8;have kx1_8:=cell_regrown x1_8;have x1_9:w1.cell? ⟨w.heap.size,9,none⟩=some (.slice ao1 d.groups.1 cap1):=T1.b1.cell 9;have kx1_9:=cell_regrown x1_9;have x1_10:w1.cell? ⟨w.heap.size,10,none⟩=some (.slice ao2 d.on.1 cap2):=T1.b1.cell 10;have kx1_10:=cell_regrown x1_10;have x1_11:w1.cell? ⟨w.heap.size,11,none⟩=some (.slice ao3 d.tapes.1 cap3):=T1.b1.cell 11;have kx1_11:=cell_regrown x1_11;have x1_12:w1.cell? ⟨w.heap.size,12,none⟩=some (.int .i64 d.writes):=T1.b1.cell 12;have kx1_12:=cell_regrown x1_12;have x1_13:w1.cell? ⟨w.heap.size,13,none⟩=some (.int .i64 d.stop):=T1.b1.cell 13;have kx1_13:=cell_regrown x1_13;have x1_14:w1.cell? ⟨w.heap.size,14,none⟩=some (.bool d.down):=T1.b1.cell 14;have kx1_14:=cell_regrown x1_14;clear T1
 rcases hx with ⟨rfl,hno⟩ | ⟨rfl,hok⟩
 ·go_wp2
  go_ret;exact wldP rfl (Stair.fall hno) HT1.out.bel
 exact absurd hok hok'
theorem zfa (d:WorldD) (cs:List Value) (hi:Nat) (w:World) (h:zaf.rd w hi d cs) (hhi:hi≤w.heap.size) (hnm:∀ t,t<d.tapes.1→∀ i,i<(d.tapes.2 t).recs.1→((d.tapes.2 t).recs.2 i).name.size≤1048576) :
 Calls Tryz.prog 12 #[.agg cs.toArray] w (zcB d w):=by
 by_cases h0:zaj d.shape
 ·by_cases h1:zcj d∧zbB d.on.1 d.on.2 (d.shape 0+d.shape 1-1)
  ·by_cases h2:(d.on.1:Int)≤d.shape 5∧(d.down=true→d.on.1=0)
   ·by_cases h3:d.tapes.1=2
    ·exact zgS d cs hi w h hhi hnm h0 ⟨h1.1,⟨h1.2,h2.1,h2.2⟩,h3⟩
    ·exact zgR d cs hi w h hhi hnm h0 ⟨h1.1,h1.2,h2,h3⟩
   ·exact zgQ d cs hi w h hhi hnm h0 ⟨h1.1,h1.2,h2⟩
  ·exact zgP d cs hi w h hhi hnm h0 h1
 ·exact zgT d cs hi w h hhi hnm h0
theorem ziU {w:World} {hi:Nat} {d:WorldD} {cs:List Value} (h:zaf.rd w hi d cs):∃ v0 v1 v2 v3 v4 v5 v6 v7 v8 vp0 vl0 vq0 vp1 vl1 vq1 vp2 vl2 vq2 v9 v10 vb,cs=[.int .i64 v0,.int .i64 v1,.int .i64 v2,.int .i64 v3,.int .i64 v4,.int .i64 v5,.int .i64 v6,.int .i64 v7,.int .i64 v8,.slice vp0 vl0 vq0,.slice vp1 vl1 vq1,.slice vp2 vl2 vq2,.int .i64 v9,.int .i64 v10,.bool vb]:=by
 obtain ⟨p1,pc1,p2,pc2,p3,pc3,rfl,-⟩:=zaz h;exact ⟨_,_,_,_,_,_,_,_,_,_,_,_,_,_,_,_,_,_,_,_,_,rfl⟩
theorem zjv {w:World} {lo hi:Nat} {d:WorldD} {cs:List Value} (h:OwnT zaf w lo hi d cs):∃ v0 v1 v2 v3 v4 v5 v6 v7 v8 vp0 vl0 vq0 vp1 vl1 vq1 vp2 vl2 vq2 v9 v10 vb,cs=[.int .i64 v0,.int .i64 v1,.int .i64 v2,.int .i64 v3,.int .i64 v4,.int .i64 v5,.int .i64 v6,.int .i64 v7,.int .i64 v8,.slice vp0 vl0 vq0,.slice vp1 vl1 vq1,.slice vp2 vl2 vq2,.int .i64 v9,.int .i64 v10,.bool vb]:=ziU h.rd
theorem zdG {d:WorldD} (h:zbH d≤1048576):∀ t,t<d.tapes.1→∀ i,i<(d.tapes.2 t).recs.1→((d.tapes.2 t).recs.2 i).name.size≤1048576:=fun t ht i hi=>by
 have h1:szSl zaW d.tapes≤1048576:=by unfold zbH at h;omega
 have h2:szSl za7 (d.tapes.2 t).recs≤1048576:=zcS h1 ht;have h3:za7 ((d.tapes.2 t).recs.2 i)≤1048576:=zcS h2 hi;unfold za7 at h3;omega
def zhf (s:Nat→Int) (g k r:Int):Prop:=InP g 0 (s 0+s 1-1)∧InP k 0 (s 2+s 3-1)∧InP r 0 (s 4-1)
theorem zkf:(Tryz.prog.info? 31).map (·.size)=some 9:=by kernel_rfl
set_option maxRecDepth 20000 in
theorem zgU (s:Nat→Int) (hok:zaj s) (g k r:Int) (w:World):Calls Tryz.prog 13 #[zad s,.int .i64 g,.int .i64 k,.int .i64 r] w (zaR (zhf s g k r) w):=by
 have hb:=okB hok;obtain ⟨t1,h1⟩:=exB (InP g 0 (s 0+s 1-1));obtain ⟨t2,h2⟩:=exB (InP k 0 (s 2+s 3-1));obtain ⟨t3,h3⟩:=exB (InP r 0 (s 4-1));have CA:=fun w'=>zbk s hok w';have CD:=fun w'=>zdB s hok w';have C1:=fun w'=>zbE (w:=w') h1;have C2:=fun w'=>zbE (w:=w') h2;have C3:=fun w'=>zbE (w:=w') h3
 have HE:Hid (zhf s g k r↔(t1=true∧t2=true∧t3=true)):=by
  show zhf s g k r↔_
  rw [h1,h2,h3];exact Iff.rfl
 have T0:=zaw w (rwS s).toArray 31;unfold zad at CA CD ⊢;clear h1 h2 h3 hok
 go_enter Tryz.func13,Tryz.ntmps13
 go_wp2_with (refine za5 31 (.tmp 4) rfl rfl w.heap.size rfl T0.b1 Tryz.underlying31 zkf rfl ?_)
 refine (CA _).mono ?_;rintro e w1 ⟨rfl,b1⟩;have T1:=T0.call b1;have HT1:=hid T1
 have z1:IntKind.i64.wrap (s 0+s 1-1)=s 0+s 1-1:=by rw [IntKind.wrap_i64];omega
 have z2:IntKind.i64.wrap (s 2+s 3-1)=s 2+s 3-1:=by rw [IntKind.wrap_i64];omega
 have z3:IntKind.i64.wrap (s 4-1)=s 4-1:=by rw [IntKind.wrap_i64];omega
 have x_0:w1.cell? ⟨w.heap.size,0,none⟩=some (.int .i64 (s 0)):=T1.b1.cell 0;have x_1:w1.cell? ⟨w.heap.size,1,none⟩=some (.int .i64 (s 1)):=T1.b1.cell 1;have x_2:w1.cell? ⟨w.heap.size,2,none⟩=some (.int .i64 (s 2)):=T1.b1.cell 2;have x_3:w1.cell? ⟨w.heap.size,3,none⟩=some (.int .i64 (s 3)):=T1.b1.cell 3;have x_4:w1.cell? ⟨w.heap.size,4,none⟩=some (.int .i64 (s 4)):=T1.b1.cell 4;have x_5:w1.cell? ⟨w.heap.size,5,none⟩=some (.int .i64 (s 5)):=T1.b1.cell 5;have x_6:w1.cell? ⟨w.heap.size,6,none⟩=some (.int .i64 (s 6)):=T1.b1.cell 6;have x_7:w1.cell? ⟨w.heap.size,7,none⟩=some (.int .i64 (s 7)):=T1.b1.cell 7;have x_8:w1.cell? ⟨w.heap.size,8,none⟩=some (.int .i64 (s 8)):=T1.b1.cell 8;clear T0 b1 T1
 go_wp2_with fail
 refine (C1 _).mono ?_;rintro e w' ⟨rfl,hw'⟩;obtain rfl:=hw'.symm
 cases t1 with
 | false=>
  go_wp2;go_ret;exact zai rfl (fun h=>by have:=HE.out.1 h;simp at this) HT1.out.bel
 | true=>
 go_wp2_with fail
 refine (CD _).mono ?_;rintro e w2 ⟨rfl,b2⟩;have T2:=HT1.out.call b2;have HB2:=hid T2.bel;have y4:w2.cell? ⟨w.heap.size,4,none⟩=some (.int .i64 (s 4)):=T2.b1.cell 4;clear b2 T2 x_0 x_1 x_2 x_3 x_4 x_5 x_6 x_7 x_8
 go_wp2_with fail
 refine (C2 _).mono ?_;rintro e w' ⟨rfl,hw'⟩;obtain rfl:=hw'.symm
 cases t2 with
 | false=>
  go_wp2;go_ret;exact zai rfl (fun h=>by have:=HE.out.1 h;simp at this) HB2.out
 | true=>
 go_wp2_with fail
 refine (C3 _).mono ?_;rintro e w' ⟨rfl,hw'⟩;obtain rfl:=hw'.symm
 cases t3 with
 | false=>
  go_wp2;go_ret;exact zai rfl (fun h=>by have:=HE.out.1 h;simp at this) HB2.out
 | true=>
  go_wp2;go_ret;exact zam rfl (HE.out.2 (by simp)) HB2.out
def KnowAns (d:WorldD) (g x:Int):Prop:=(x≠0∧WldAns d x)∨(WldAns d 0∧((¬ InP g 0 (d.shape 0+d.shape 1-1)∧x=3)∨(InP g 0 (d.shape 0+d.shape 1-1)∧x=0)))
theorem KnowAns.one {d:WorldD} {g x y:Int} (h:KnowAns d g x) (k:KnowAns d g y):x=y:=by
 rcases h with ⟨h1,h2⟩ | ⟨h1,h2⟩<;>rcases k with ⟨k1,k2⟩ | ⟨k1,k2⟩
 ·exact h2.one k2
 ·exact absurd (h2.one k1) h1
 ·exact absurd (k2.one h1) k1
 ·rcases h2 with ⟨a,rfl⟩ | ⟨a,rfl⟩<;>rcases k2 with ⟨b,rfl⟩ | ⟨b,rfl⟩
  ·rfl
  ·exact absurd b a
  ·exact absurd a b
  ·rfl
theorem KnowAns.zero {d:WorldD} {g:Int} (h:KnowAns d g 0):WldAns d 0∧InP g 0 (d.shape 0+d.shape 1-1):=by
 rcases h with ⟨h1,h2⟩ | ⟨h1,h2⟩
 ·exact absurd rfl h1
 ·rcases h2 with ⟨a,b⟩ | ⟨a,b⟩
  ·omega
  ·exact ⟨h1,a⟩
theorem ziV {d:WorldD} (h:OkWorld d) {G:Nat} (hG:G<d.groups.1):((d.groups.2 G).1:Int)=d.shape 2+d.shape 3∧(d.groups.2 G).1≤100:=by
 have h1:=(h.form.1.2 G hG).1;obtain ⟨_,q,_⟩:=h.shape;unfold Shp at q;omega
set_option maxRecDepth 20000 in
theorem zeq (d:WorldD) (g:Int) (cs:List Value) (hi:Nat) (w:World) (h:zaf.rd w hi d cs) (hhi:hi≤w.heap.size) (hsz:zbH d≤1048576) :
 Calls Tryz.prog 19 #[.agg cs.toArray,.int .i64 g] w (fun e w'=>∃ x,e=.returned (.int .i64 x)∧KnowAns d g x∧Below w.heap.size w w'):=by
 have h':=h;obtain ⟨ao1,cap1,ao2,cap2,ao3,cap3,rfl,g1,g2,g3,k0,k4,k5⟩:=zaz h';have HRD:=hid h;have HSZ:=hid hsz;clear h h' hsz g1 g2 g3 k0 k4 k5;have T0:=zaw w (rwW d ao1 cap1 ao2 cap2 ao3 cap3).toArray 35
 go_enter Tryz.func19,Tryz.ntmps19
 go_wp2_with (refine za5 35 (.tmp 2) rfl rfl (w.heap.size) rfl (T0.b1) Tryz.underlying35 zeC rfl ?_)
 refine (ze9 d _ hi _ (zaf.rd_below HRD.out T0.bel hhi) (Nat.le_trans hhi T0.bel.size) (zdG HSZ.out)).mono ?_;rintro e w1 ⟨x,rfl,hx,b1⟩;have HT1:=hid (T0.call b1);have HX:=hid hx;clear b1 T0 hx
 by_cases hx0:x=0
 case neg=>
  have hne:(x != 0)=true:=by simp [hx0]
  go_wp2;go_ret;exact ⟨x,rfl,.inl ⟨hx0,HX.out⟩,HT1.out.bel⟩
 subst hx0;have HOK:=hid (WldAns.ok HX.out);obtain ⟨t,ht⟩:∃ t:Bool,(t=true↔InP g 0 (d.shape 0+d.shape 1-1)):=⟨@decide _ (Classical.propDecidable _),@decide_eq_true_iff _ (Classical.propDecidable _)⟩;have HTT:=hid ht;have x_0:w1.cell? ⟨w.heap.size,0,none⟩=some (.int .i64 (d.shape 0)):=HT1.out.b1.cell 0;have x_1:w1.cell? ⟨w.heap.size,1,none⟩=some (.int .i64 (d.shape 1)):=HT1.out.b1.cell 1;have x_2:w1.cell? ⟨w.heap.size,2,none⟩=some (.int .i64 (d.shape 2)):=HT1.out.b1.cell 2;have x_3:w1.cell? ⟨w.heap.size,3,none⟩=some (.int .i64 (d.shape 3)):=HT1.out.b1.cell 3;have x_4:w1.cell? ⟨w.heap.size,4,none⟩=some (.int .i64 (d.shape 4)):=HT1.out.b1.cell 4;have x_5:w1.cell? ⟨w.heap.size,5,none⟩=some (.int .i64 (d.shape 5)):=HT1.out.b1.cell 5;have x_6:w1.cell? ⟨w.heap.size,6,none⟩=some (.int .i64 (d.shape 6)):=HT1.out.b1.cell 6;have x_7:w1.cell? ⟨w.heap.size,7,none⟩=some (.int .i64 (d.shape 7)):=HT1.out.b1.cell 7;have x_8:w1.cell? ⟨w.heap.size,8,none⟩=some (.int .i64 (d.shape 8)):=HT1.out.b1.cell 8;have CB:=zec HOK.out.shape ht w1;unfold zad at CB;clear ht
 go_wp2_with fail
 refine CB.mono ?_;rintro e w2 ⟨rfl,b2⟩;have HB2:Hid (Below w.heap.size w w2):=(HT1.out.call b2).bel;clear CB b2 HT1 x_0 x_1 x_2 x_3 x_4 x_5 x_6 x_7 x_8
 cases t with
 | true=>
  go_wp2;go_ret;exact ⟨0,rfl,.inr ⟨HX.out,.inr ⟨HTT.out.1 (by simp),rfl⟩⟩,HB2.out⟩
 | false=>
  go_wp2;go_ret;exact ⟨3,rfl,.inr ⟨HX.out,.inl ⟨fun h=>absurd (HTT.out.2 h) (by simp),rfl⟩⟩,HB2.out⟩
theorem run_append_none' {P:Program} (w:World) (base:Nat) (t ty e:TypeId) (i:TypeInfo) (size:Nat) (ht:P.underlying t=some (.slice e)) (hi:P.info? e=some i) (v:Value) (n c:Nat) (xs:List Value) (hown:w.ownsRow base e size v n xs) :
 (Builtin.append_ #[t,t] ty #[v,.slice none 0 c]).run P w=.ok v w:=by
 rcases hown.2 with ⟨rfl,rfl⟩ | ⟨g,cap,cur,rfl,_,_,hnc,_⟩
 ·simp [Builtin.append_,run_underlying ht,sizeOf,typeInfo,hi,Builtin.lenOf,Builtin.firstCells]
 ·simp [Builtin.append_,run_underlying ht,sizeOf,typeInfo,hi,Builtin.lenOf,Builtin.firstCells,hnc,storeCells]
theorem ziW {ops:Array Oper} {rest:List Oper} {o:Oper} {a:Act} {W w':World} {Q:Exit→Act→World→Prop} {T:TypeId} {v' x1 x2:Value} (hg:o.guard=none) (s y:Operand) (hop:o.op=Op.call { callee:=Callee.builtin Builtin.append,args:=#[s,y],argTypes:=#[T,T] })
 (h1:a.eval s=x1) (h2:a.eval y=x2) (hrun:(Builtin.append_ #[T,T] o.type #[x1,x2]).run Tryz.prog W=.ok v' w') (hK:wpList Tryz.prog ops Q rest (a.put o.dst v') w'):wpList Tryz.prog ops Q (o::rest) a W:=by
 refine wpList_plain hg fun K hK'=>?_;unfold Oper.wp
 simp [execOp,hop,resolve,invoke,builtin,h1,h2,hrun,Result.andThen]
 exact hK' _ _ hK
def zkg {α:Type} (E:Lay α):Prop:=∀ (w:World) (hi:Nat) (a:α) (cs:List Value),E.rd w hi a cs→∀ u,u∈cs→u.oneCell'=true
theorem zeg:zkg zag:=fun w hi p cs h u hu=>by
 obtain ⟨v,rfl,⟨ao,cap,rfl,_⟩,_⟩:=h
 simp at hu
 subst hu;rfl
def cat2 {β:Type} (x:Nat→β) (n:Nat) (y:Nat→β):Nat→β:=fun i=>if i<n then x i else y (i-n)
theorem zdx {β:Type} (x:Nat→β) {n i:Nat} (y:Nat→β) (h:i<n):cat2 x n y i=x i:=if_pos h
theorem zfb {β:Type} (x:Nat→β) (n:Nat) (y:Nat→β) (i:Nat):cat2 x n y (n+i)=y i:=by
 unfold cat2;rw [if_neg (by omega)]
 congr 1
 omega
theorem zeh {β:Type} (x:Nat→List β) (n:Nat) (y:Nat→List β):∀ m,catN (n+m) (cat2 x n y)=catN n x++catN m y
 | 0=>by rw [zbw,List.append_nil];exact zdk (fun i hi=>zdx x y hi)
 | m+1=>by rw [← Nat.add_assoc,zbi,zeh x n y m,zbi,zfb,List.append_assoc]
structure View {α:Type} (E:Lay α) (t:TypeId) (w:World) (lo hi:Nat) (v:Value) (n:Nat) (x:Nat→α) (ce:Nat→List Value):Prop where
 row:w.ownsRow lo t E.sz v n (catN n ce)
 each:∀ i,i<n→E.rd w hi (x i) (ce i)
section
variable {α:Type} {E:Lay α} {t:TypeId} {w w':World} {lo hi n:Nat} {v:Value} {x:Nat→α} {ce:Nat→List Value}
theorem View.nil (x:Nat→α) (ce:Nat→List Value) (w:World) (lo hi:Nat):View E t w lo hi (.slice none 0 0) 0 x ce:=⟨World.ownsRow_nil w lo t E.sz,fun i hi=>by omega⟩
theorem View.lit0 (x:Nat→α) (ce:Nat→List Value) (w:World) (hi:Nat):View E t (w.alloc (.cells #[] t)) w.heap.size hi (.slice (some ⟨w.heap.size,0,none⟩) 0 0) 0 x ce:=by
 have h:=World.ownsRow_lit (base:=w.heap.size) (e:=t) (size:=E.sz) w #[] 0 (Nat.le_refl _) (Nat.zero_le _) (by simp);exact ⟨by simpa [zbw] using h,fun i hi=>by omega⟩
theorem View.form (h:View E t w lo hi v n x ce):∃ ao cap,v=.slice ao n cap:=by
 rcases h.row.2 with ⟨hv,hn⟩ | ⟨g,cap,cur,rfl,_⟩
 ·exact ⟨none,0,by rw [hv,hn]⟩
 ·exact ⟨_,_,rfl⟩
theorem View.form0 (h:View E t w lo hi v n x ce) (h0:n≠0):∃ g cap,v=.slice (some ⟨g,0,none⟩) n cap:=by
 rcases h.row.2 with ⟨hv,hn⟩ | ⟨g,cap,cur,rfl,_⟩
 ·exact absurd hn h0
 ·exact ⟨_,_,rfl⟩
theorem View.len (h:View E t w lo hi v n x ce):n≤maxLen:=by
 rcases h.row.2 with ⟨hv,hn⟩ | ⟨g,cap,cur,rfl,hbg,hgg,hnc,hcm,rest⟩
 ·omega
 ·omega
theorem View.kept (h:View E t w lo hi v n x ce) (hk:∀ b,v.ownBlock=some b→w'.heap[b]?=w.heap[b]?) (hb:Below hi w w'):View E t w' lo hi v n x ce:=by
 refine ⟨⟨h.row.1,?_⟩,fun i hi=>E.rd_below (h.each i hi) hb (Nat.le_refl _)⟩
 rcases h.row.2 with hn | ⟨g,cap,cur,rfl,hbg,hgg,rest⟩
 ·exact .inl hn
 ·exact .inr ⟨g,cap,cur,rfl,hbg,(hk g (by simp [Value.ownBlock])).trans hgg,rest⟩
theorem View.below (h:View E t w lo hi v n x ce) (hb:Below w.heap.size w w') (hh:hi≤w.heap.size):View E t w' lo hi v n x ce:=
 h.kept (fun b hv=>hb.block b (h.row.lt b hv).2) (hb.mono hh)
theorem View.congr {y:Nat→α} (h:View E t w lo hi v n x ce) (hy:∀ i,i<n→x i=y i):View E t w lo hi v n y ce:=⟨h.row,fun i hi=>by rw [← hy i hi];exact h.each i hi⟩
theorem View.lens (h:View E t w lo hi v n x ce):∀ i,i<n→(ce i).length=E.sz:=fun i hi=>E.rd_len (h.each i hi)
theorem View.cell {g cap:Nat} (h:View E t w lo hi (.slice (some ⟨g,0,none⟩) n cap) n x ce) {i j:Nat} (hi:i<n) (hj:j<E.sz):w.cell? ⟨g,i*E.sz+j,none⟩=(ce i)[j]?:=by
 rw [h.row.cellAt _ (zjD hi hj),zb9 h.lens hi hj]
theorem View.store1 {g cap:Nat} (h:View E t w lo hi (.slice (some ⟨g,0,none⟩) n cap) n x ce) (h1:E.sz=1) (hlo:hi≤lo) {i:Nat} (hi':i<n) {u:Value} {a:α} (ha:E.rd w hi a [u]) :
 View E t (w.setCell ⟨g,i,none⟩ u) lo hi (.slice (some ⟨g,0,none⟩) n cap) n (upd x i a) (upd ce i [u])∧Below lo w (w.setCell ⟨g,i,none⟩ u):=by
 have hg:=h.row.lt g rfl;have hb:Below lo w (w.setCell ⟨g,i,none⟩ u):=(Below.refl _ _).setCell hg.1 _;refine ⟨⟨?_,fun m hm=>?_⟩,hb⟩
 ·have:=(h.row.stored (i*E.sz+0) u).1
  rw [zjg h.lens hi' (by omega)] at this;rw [show i*E.sz+0=i by rw [h1];omega] at this;have hl:=h.lens i hi';rw [h1] at hl;obtain ⟨c,hc⟩:=List.length_eq_one_iff.1 hl;rw [hc] at this;exact this
 ·by_cases c:m=i
  ·subst c
   rw [zcp,zcp];exact E.rd_below ha hb hlo
  ·rw [zcq x a c,zcq ce _ c]
   exact E.rd_below (h.each m hm) hb hlo
def Src (E:Lay α) (w:World) (hi:Nat) (ao:Option Addr) (m:Nat) (y:Nat→α) (cy:Nat→List Value):Prop:=
 (m≠0→∃ b off,ao=some ⟨b,off,none⟩∧∀ j,j<m→∀ k,k<E.sz→w.cell? ⟨b,off+(j*E.sz+k),none⟩=(cy j)[k]?)∧∀ j,j<m→E.rd w hi (y j) (cy j)
theorem ziX {b:Nat} {y:α} {cs:List Value} (hc:∀ k,k<E.sz→w.cell? ⟨b,k,none⟩=cs[k]?) (hy:E.rd w hi y cs):Src E w hi (some ⟨b,0,none⟩) 1 (fun _=>y) (fun _=>cs):=
 ⟨fun _=>⟨b,0,rfl,fun j hj k hk=>by
  obtain rfl:j=0:=by omega
  rw [← hc k hk]
  congr 2
  omega⟩,fun _ _=>hy⟩
theorem zkh (b o j:Nat):(⟨b,o,none⟩:Addr).add j=⟨b,o+j,none⟩:=by unfold Addr.add;split<;>simp_all
end
theorem zei {α:Type} {E:Lay α} {T e:TypeId} {by_:Nat} {zs:List Value} (I:ElInfo E T e by_ zs) (R1:zkg E) (ty:TypeId) {W:World} {lo hi n:Nat} {v:Value} {x:Nat→α} {ce:Nat→List Value} (h:View E e W lo hi v n x ce)
 {ao:Option Addr} {m:Nat} (c:Nat) {y:Nat→α} {cy:Nat→List Value} (hs:Src E W hi ao m y cy) (hlo:lo≤W.heap.size) (hhi:hi≤lo) (hn:n+m≤10000000) (hc0:ao=none→c=0∨m=0) :
 ∃ v' w',(Builtin.append_ #[T,T] ty #[v,.slice ao m c]).run Tryz.prog W=.ok v' w'∧View E e w' lo hi v' (n+m) (cat2 x n y) (cat2 ce n cy)∧W.grownBy w' v.ownBlock∧Below lo W w':=by
 obtain ⟨hz,hzs,hu,hinf,few⟩:=I
 obtain ⟨i0,hi0⟩:∃ i0,Tryz.prog.info? e=some i0:=by
  cases h:Tryz.prog.info? e with
  | none=>rw [h] at hinf;cases hinf
  | some i0=>exact ⟨i0,rfl⟩
 rw [hi0] at hinf
 simp only [Option.map_some,Option.some.injEq,Prod.mk.injEq] at hinf
 obtain ⟨h1,h2,h3⟩:=hinf
 obtain ⟨z,hz0,hzc⟩:∃ z,i0.zero=some z∧z.cells=zs.toArray:=by
  cases h:i0.zero with
  | none=>rw [h] at h1;cases h1
  | some z=>rw [h] at h1;exact ⟨z,rfl,by simpa using h1⟩
 obtain ⟨hcell,hrd⟩:=hs;have hlen:(catN m cy).length=m*E.sz:=zcD (fun j hj=>E.rd_len (hrd j hj))
 have big:∀ ad,ao=some ad→(∀ j u,(catN m cy)[j]?=some u→W.cell? (ad.add j)=some u)→∃ v' w',(Builtin.append_ #[T,T] ty #[v,.slice ao m c]).run Tryz.prog W=.ok v' w'∧View E e w' lo hi v' (n+m) (cat2 x n y) (cat2 ce n cy)∧W.grownBy w' v.ownBlock∧Below lo W w':=fun ad ha hc=>by
  subst ha
  obtain ⟨v',w',hr,r1,r2,r3,r4⟩:=run_append_own_at (P:=Tryz.prog) W lo T ty e i0 z E.sz by_ hu hi0 hz0 h2 h3 (by rw [hzc];simpa using hzs) hz v n (catN n ce) h.row ad m c (catN m cy) hlen hc
   (fun u hu=>by
    obtain ⟨i,hi,hm⟩:=zcE.1 hu
    exact R1 _ _ _ _ (hrd i hi) u hm) (by unfold maxLen;omega) (by
    have:(n+m)*by_≤10000000*1000:=Nat.mul_le_mul hn few
    omega) hlo
  have hb:Below lo W w':=(Below.refl _ _).grown r2 hlo (fun k hk=>(h.row.lt k hk).1);refine ⟨v',w',hr,⟨by rw [zeh];exact r1,fun i hi=>?_⟩,r2,hb⟩
  by_cases c1:i<n
  ·rw [zdx x y c1,zdx ce cy c1]
   exact E.rd_below (h.each i c1) hb hhi
  ·obtain ⟨k,rfl⟩:∃ k,i=n+k:=⟨i-n,by omega⟩
   rw [zfb,zfb];exact E.rd_below (hrd k (by omega)) hb hhi
 by_cases hm:m=0
 ·subst hm
  cases ao with
  | some ad=>exact big ad rfl (fun j u hj=>by rw [zbw] at hj;simp at hj)
  | none=>
   refine ⟨v,W,run_append_none' W lo T ty e i0 E.sz hu hi0 v n c _ h.row,⟨by rw [zeh,zbw,List.append_nil];exact h.row,fun i hi=>?_⟩,⟨rfl,rfl,rfl,Nat.le_refl _,fun _ _ _=>rfl⟩,Below.refl _ _⟩
   have hi':i<n:=by omega
   rw [zdx x y hi',zdx ce cy hi'];exact h.each i hi'
 ·obtain ⟨b,off,rfl,hcc⟩:=hcell hm
  refine big _ rfl (fun j u hj=>?_)
  have hj':j<m*E.sz:=by rw [← hlen];exact (List.getElem?_eq_some_iff.1 hj).1
  have e1:j/E.sz<m:=Nat.div_lt_of_lt_mul (by rw [Nat.mul_comm];exact hj');have e2:j%E.sz<E.sz:=Nat.mod_lt _ hz
  have e3:j/E.sz*E.sz+j%E.sz=j:=by rw [Nat.mul_comm];exact Nat.div_add_mod j E.sz
  rw [zkh,← e3,hcc _ e1 _ e2,← zb9 (fun j hj=>E.rd_len (hrd j hj)) e1 e2,e3];exact hj
theorem zfR (w:World) (ty:TypeId) (lo hi:Nat) (v:Value) (n:Nat) (f:Nat→Nat) (hown:Own w lo hi v n f) (b c:Nat) (hcell:w.cell? ⟨b,0,none⟩=some (.int .u8 (f n))) (hn:n+1≤1000000) (hlo:lo≤w.heap.size) :
 ∃ v' w',(Builtin.append_ #[69,69] ty #[v,.slice (some ⟨b,0,none⟩) 1 c]).run Tryz.prog w=.ok v' w'∧Own w' lo w'.heap.size v' (n+1) f∧w.grownBy w' v.ownBlock∧(v'.ownBlock=v.ownBlock∨v'.ownBlock=some w.heap.size):=by
 obtain ⟨i0,hi0,hz0,hz1,hz2⟩:=info_parts zdj
 obtain ⟨v',w',hr,h2,h3,_,h4⟩:=run_append_own_at (P:=Tryz.prog) w lo 69 ty 5 i0 (.int .u8 0) 1 1 Tryz.underlying69 hi0 hz0 hz1 hz2 rfl (by decide) v n (cellsOf n f) hown.1 ⟨b,0,none⟩ 1 c [.int .u8 (f n)] rfl
  (fun j u hj=>by
   match j,hj with
   | 0,hj=>simp at hj;subst hj;simpa [Addr.add] using hcell)
  (fun u hu=>by simp at hu;subst hu;rfl) (by unfold maxLen;omega) (by omega) hlo
 rw [zdz] at h2;exact ⟨v',w',hr,⟨h2,fun k hk=>(h2.lt k hk).2⟩,h3,h4⟩
theorem zfc {ops:Array Oper} {o:Oper} {a:Act} {w:World} {K:Act→World→Prop} {Q:Exit→Act→World→Prop} {E:Prop}
 (hg:o.guard=none) (s x:Operand) (hop:o.op=Op.call { callee:=Callee.builtin Builtin.append,args:=#[s,x],argTypes:=#[69,69] })
 (lo hi:Nat) (v:Value) (n:Nat) (f:Nat→Nat) (hs:a.eval s=v) (hown:Own w lo hi v n f) (b c:Nat) (hx:a.eval x=.slice (some ⟨b,0,none⟩) 1 c) (hcell:w.cell? ⟨b,0,none⟩=some (.int .u8 (f n)))
 (hn:n+1≤1000000) (hlo:lo≤w.heap.size)
 (hK:∀ v' w',Own w' lo w'.heap.size v' (n+1) f→w.grownBy w' v.ownBlock→(v'.ownBlock=v.ownBlock∨v'.ownBlock=some w.heap.size)→K (a.put o.dst v') w') :
 if Region.wanted o (yielded ops a.tmps)=true then Oper.wp Tryz.prog o a w K Q else E:=by
 have hw:Region.wanted o (yielded ops a.tmps)=true:=by simp [Region.wanted,hg]
 rw [if_pos hw];obtain ⟨v',w',hrun,r1,r2,r3⟩:=zfR w o.type lo hi v n f hown b c hcell hn hlo;unfold Oper.wp
 simp [execOp,hop,resolve,invoke,builtin,hs,hx,hrun,Result.andThen]
 exact hK v' w' r1 r2 r3
theorem OwnE.grow {w w2:World} {lo:Nat} {v:Value} {R:Nat} {n n':Nat→Nat} {M:Mat} {g cap:Nat} {e:Nat→Value} {x:Value} {o:Obj} (h:OwnE w lo w.heap.size v R n M g cap e) (i:Nat) (hi':i<R)
 (hg:(w.alloc o).grownBy w2 (e i).ownBlock) (ho:Own w2 lo w2.heap.size x (n' i) (M i)) (hx:x.ownBlock=(e i).ownBlock∨x.ownBlock=some (w.heap.size+1)) (hn:∀ j,j<R→j≠i→n' j=n j) :
 OwnE (w2.setCell ⟨g,i,none⟩ x) lo w2.heap.size v R n' M g cap (fun j=>if j=i then x else e j):=by
 have hs:w.heap.size+1≤w2.heap.size:=by have:=hg.size;simpa using this
 have hhi:=h.high
 have kp:∀ b,b<w.heap.size→(e i).ownBlock≠some b→w2.heap[b]?=w.heap[b]?:=fun b hb hne=>
  (hg.block b (by simp;omega) (fun hh=>hne hh.symm)).trans (Below.heap_alloc w o b hb)
 have hr:=zaU (w':=w2) h.row fun b hb=>by
  have e1:b=g:=by rw [h.val] at hb;simpa [Value.ownBlock] using hb.symm
  subst e1;exact kp b hhi (h.apart.1 i hi')
 rw [h.val] at hr;have hst:=(hr.stored i x).1;rw [zbc R e (fun j=>if j=i then x else e j) i x hi' (fun j _=>rfl)] at hst;have oth:∀ b,b≠g→(w2.setCell ⟨g,i,none⟩ x).heap[b]?=w2.heap[b]?:=fun b hbg=>heap_setCell_other w2 ⟨g,i,none⟩ b _ hbg;have low:∀ q,q<R→∀ k,(e q).ownBlock=some k→k<w.heap.size:=fun q hq k hk=>(h.each q hq).2 k hk
 have xng:x.ownBlock≠some g:=fun hh=>by
  rcases hx with hx | hx
  ·rw [hx] at hh
   exact h.apart.1 i hi' hh
  ·rw [hx] at hh
   cases hh
   omega
 refine ⟨h.val,h.low,by omega,by rw [h.val];exact hst,fun j hj=>?_,⟨fun j hj=>?_,fun j l hj hl hne k hk=>?_⟩⟩
 ·by_cases c:j=i
  ·subst c
   simp only [if_pos]
   exact ho.kept fun k hk=>oth k fun hkg=>xng (by rw [hk,hkg])
  ·simp only [if_neg c]
   rw [hn j hj c];refine ((h.each j hj).kept fun k hk=>?_).weaken (Nat.le_refl _) (by omega);exact (oth k fun hkg=>h.apart.1 j hj (by rw [hk,hkg])).trans (kp k (low j hj k hk) fun hh=>h.apart.2 i j hi' hj (fun z=>c z.symm) k hh hk)
 ·by_cases c:j=i
  ·simp only [if_pos c]
   exact xng
  ·simp only [if_neg c]
   exact h.apart.1 j hj
 ·by_cases c:j=i
  ·have c2:¬ l=i:=fun z=>hne (by rw [c,z])
   simp only [if_pos c] at hk
   simp only [if_neg c2]
   intro hh
   rcases hx with hx | hx
   ·rw [hx] at hk
    exact h.apart.2 i l hi' hl (fun z=>c2 z.symm) k hk hh
   ·rw [hx] at hk
    cases hk
    have:=low l hl _ hh;omega
  ·simp only [if_neg c] at hk
   by_cases c2:l=i
   ·simp only [if_pos c2]
    intro hh
    rcases hx with hx | hx
    ·rw [hx] at hh
     exact h.apart.2 i j hi' hj (fun z=>c z.symm) k hh hk
    ·rw [hx] at hh
     cases hh
     have:=low j hj _ hk;omega
   ·simp only [if_neg c2]
    exact h.apart.2 j l hj hl hne k hk
theorem zdL (v:Value) (R C:Nat) (M:Mat) (hi:Nat) (r c:Nat) (hr:r≤R) (hc:c<C) (hR:R≤1000000) (hC:C≤1000000) (w:World) (h:RdM w hi v R (fun _=>C) M) :
 Calls Tryz.prog 143 #[v,.int .i64 r,.int .i64 c] w fun e w'=>e=.returned (.int .i64 (lead M c R r))∧w'=w:=by
 obtain ⟨ao,cap,e,rfl,hm,hcc,he⟩:=h
 go_enter Tryz.func143,Tryz.ntmps143
 go_wp2
 go_loop [7] (fun i=>∃ k:Nat,r≤k∧k≤R∧i=.int .i64 k∧∀ j,r≤j→j<k→M j c=0) (fun i=>R-(intOf i).toNat)
 case atStart=>exact ⟨r,Nat.le_refl _,hr,rfl,fun j h1 h2=>by omega⟩
 case round=>
  obtain ⟨k,hk1,hk,rfl,hz⟩:=hrel
  by_cases hlt:k<R
  ·obtain ⟨b,off,rfl,hblt,hcell⟩:=hcc (by omega)
   obtain ⟨aok,capk,hsk,hmk,hqk⟩:=he k hlt;obtain ⟨b2,off2,rfl,hlt2,hcell2⟩:=hqk (by omega)
   have hck:w.cell? ⟨b,off+k,none⟩=some (.slice (some ⟨b2,off2,none⟩) C capk):=by rw [← hsk];exact hcell k hlt
   have hcc2:w.cell? ⟨b2,off2+c,none⟩=some (.int .u8 (M k c)):=hcell2 c hc;have HZ:=hid hz;obtain ⟨x,hx⟩:∃ x,x=M k c:=⟨_,rfl⟩;have HX:=hid hx;rw [← hx] at hcc2;clear hcc he hcell hsk hcell2 hz hx
   by_cases h0:x=0
   ·subst h0
    go_wp2
    go_round
    case rel=>exact ⟨k+1,by omega,by omega,by go_num,fun j h1 h2=>by
     by_cases ej:j=k
     ·rw [ej,← HX.out]
     ·exact HZ.out j h1 (by omega)⟩
    case measure=>simp [intOf];omega
   ·have ht:((x:Int) != 0)=true:=by simp;omega
    go_wp2;go_ret;exact ⟨zew (by rw [zeQ (a:=k) ⟨hk1,by omega,HZ.out,fun _=>by rw [← HX.out];exact h0⟩]),rfl⟩
  ·have hkn:k=R:=by omega
   subst hkn;have HZ:=hid hz;clear hz;go_wp2;go_ret;exact ⟨zew (by rw [zeQ (a:=k) ⟨hk1,Nat.le_refl _,HZ.out,fun h=>by omega⟩]),rfl⟩
theorem zfd (v1 v2:Value) (n:Nat) (f l g:Nat→Nat) (c:Nat) (lo hi:Nat) (w:World) (hs:Own w lo hi v1 n f) (hr:Own w lo hi v2 n l) (hne:∀ k,v1.ownBlock=some k→v2.ownBlock≠some k) (hlh:lo≤hi) (hhi:hi≤w.heap.size)
 (kf:∀ i,f i<256) (kl:∀ i,l i<256) (hc:c<256) (hg:∀ i,i<n→g i=f i ^^^ mulN c (l i)) (hn:n≤1000000000) :
 Calls Tryz.prog 76 #[v1,v2,.int .u8 c] w fun e w'=>e=.returned (.tuple #[])∧Own w' lo hi v1 n g∧Chg (tlo v1 lo) (thi v1 lo) w w':=by
 by_cases h0:n=0
 ·subst h0
  refine (zc9 v1 v2 f l c hi hi w hs.rd hr.rd hc).mono fun e w' ⟨he,hb⟩=>⟨he,(hs.below hb hhi).congr (fun i hi=>by omega),Below.chg hb _ _⟩
 ·obtain ⟨g0,cap0,rfl,h1,h2,h3,h4⟩:=hs.form h0
  obtain ⟨b,cap,rfl,h1',h2',h3',h4'⟩:=hr.form h0;have hbg:b≠g0:=fun hh=>hne g0 rfl (by simp [Value.ownBlock,hh]);have ht:tlo (.slice (some ⟨g0,0,none⟩) n cap0) lo=g0:=rfl;have ht2:thi (.slice (some ⟨g0,0,none⟩) n cap0) lo=g0+1:=rfl;have hst:=hs.tight;rw [ht,ht2] at hst ⊢
  have hcell:∀ i,i<n→w.cell? ⟨b,0+i,none⟩=some (.int .u8 (l i)):=fun i hi=>by rw [Nat.zero_add,hr.1.cellAt i (by omega),zac _ _ _ hi]
  refine (zcN g0 cap0 n f l g c g0 (g0+1) b 0 cap w hst (by omega) h3' (by omega) hcell (Nat.le_refl _) (Nat.lt_succ_self _) kf kl hc hg hn).mono fun e w' ⟨he,ho,hch⟩=>⟨he,?_,hch⟩;exact hs.untight ho
theorem zej (v:Value) (R C:Nat) (M:Mat) (lo hi:Nat) (r c:Nat) (g cap:Nat) (e:Nat→Value) (hr:r<R) (hc:c<C) (hR:R≤1000000) (hC:C≤1000000) (kM:Byt M) (w:World) (h:OwnE w lo hi v R (fun _=>C) M g cap e) (hhi:hi≤w.heap.size) :
 Calls Tryz.prog 145 #[v,.int .i64 r,.int .i64 c] w fun ee w'=>ee=.returned (.tuple #[])∧OwnE w' lo hi v R (fun _=>C) (zap M r c R) g cap e∧Chg lo hi w w':=by
 obtain rfl:=h.val;have hlh:lo≤hi:=Nat.le_trans h.low (Nat.le_of_lt h.high)
 go_enter Tryz.func145,Tryz.ntmps145
 go_wp2
 go_loopw [6,9] (fun _ i wr=>∃ k:Nat,k≤R∧i=.int .i64 k∧OwnE wr lo hi (.slice (some ⟨g,0,none⟩) R cap) R (fun _=>C) (zap M r c k) g cap e∧Chg lo hi w wr) (fun _ i _=>R-(intOf i).toNat)
 case atStart=>exact ⟨0,Nat.zero_le _,rfl,by rw [zdZ];exact h,Chg.refl' _ _ _⟩
 case round=>
  clear h;obtain ⟨k,hk,rfl,hE,hch⟩:=hrel
  by_cases hlt:k<R
  ·by_cases hkr:k=r
   ·subst hkr
    have E:Hid (OwnE wr lo hi (.slice (some ⟨g,0,none⟩) R cap) R (fun _=>C) (zap M k c (k+1)) g cap e):=by rw [zdY];exact hE
    clear hE;go_wp2
    go_roundw
    case rel=>exact ⟨k+1,by omega,by go_num,E.out,hch⟩
    case measure=>simp [intOf];omega
   ·have ht:((k:Int) != (r:Int))=true:=by simp;omega
    have kB:=zdq kM r c k;have ck:=hE.cell k hlt;have cr:=hE.cell r hr;have ok:=hE.each k hlt;have or:=hE.each r hr;obtain ⟨gk,capk,hek,_,_,hgk,_⟩:=ok.form (by omega)
    have hcc:wr.cell? ⟨gk,c,none⟩=some (.int .u8 (zap M r c k k c)):=by
     have:=ok.1;rw [hek] at this;rw [this.cellAt c (by omega),zac _ _ _ hc]
    have hcy:=kB k c;obtain ⟨y,hy⟩:∃ y,y=zap M r c k k c:=⟨_,rfl⟩;have hsz:=hch.size
    have A:=zfd (e k) (e r) C (zap M r c k k) (zap M r c k r) (zap M r c (k+1) k) y lo hi (wr.drewN 1) ok or (hE.apart.2 k r hlt hr hkr) hlh (by show hi≤wr.heap.size;omega) (kB k) (kB r) (by rw [hy];exact hcy)
     (fun j hj=>by rw [zcY hkr,hy];simp) (by omega)
    rw [← hy] at hcc hcy;obtain ⟨ek,hek'⟩:∃ x,x=e k:=⟨_,rfl⟩;obtain ⟨er,her'⟩:∃ x,x=e r:=⟨_,rfl⟩;rw [← hek'] at ck A hek;rw [← her'] at cr A;have HEK:=hid hek';subst hek;have HE:=hid hE;have HTS:=hid (zio ok hlh);clear hy hek' her' ok or hE kB;go_wp2
    go_region_with (go_at_call 76;refine A.mono ?_;rintro ee w3 ⟨rfl,ho3,hc3⟩)
    all_goals
     have c3:Chg (tlo (e k) lo) (thi (e k) lo) wr w3:=by rw [← HEK.out];exact ⟨hc3.os,hc3.tape,hc3.output,hc3.size,hc3.block⟩
     have E3:OwnE w3 lo hi (.slice (some ⟨g,0,none⟩) R cap) R (fun _=>C) (zap M r c (k+1)) g cap e:=HE.out.upd k hlt c3 (by rw [← HEK.out];exact ho3) (fun j hj hne=>by rw [zcY hkr];simp [hne]);have C3:Chg lo hi w w3:=hch.trans (c3.widen HTS.out.1 HTS.out.2);clear c3 hc3 ho3 HE A HEK HTS;go_wp2
     go_roundw
     case rel=>exact ⟨k+1,by omega,by go_num,E3,C3⟩
     case measure=>simp [intOf];omega
  ·have hkn:k=R:=by omega
   subst hkn;go_wp2
   go_end0
   exact ⟨rfl,hE,hch⟩
end Go.Proofs.YtfhgcadinjfooaaGreat
