/- Whether a record stands among others: hasRec, by slices.ContainsFunc. -/
import Derived.Test.YtajibninhikdgaaGreatZPspentah
set_option linter.unusedVariables false
set_option linter.unusedSimpArgs false
set_option maxHeartbeats 16000000
namespace Go.Proofs.YtajibninhikdgaaGreat
open Go.RowKit F256
theorem zdI:(Tryz.prog.info? 83).map (·.size)=some 9:=by kernel_rfl
set_option maxRecDepth 100000 in
theorem zi1 (a r:RecD) (ca cr:List Value) (hi p:Nat) (w:World) (ha:zab.rd w hi a ca) (hr:zab.rd w hi r cr) (hB:Box w p cr.toArray 83) (hhi:hi≤w.heap.size) :
 Calls Tryz.prog 134 #[.agg ca.toArray,.pointer (some ⟨p,0,none⟩)] w (zaT (SameR a r) w):=by
 have hpl:=hB.lt;have B0:=zaE w ca.toArray 83;have HB0:=hid B0.bel;have X1:Box (w.alloc (.cells ca.toArray 83)) w.heap.size ca.toArray 83:=B0.b1;have X2:Box (w.alloc (.cells ca.toArray 83)) p cr.toArray 83:=hB.below B0.bel hpl;have CS:=zd9 a r ca cr hi hi (w.alloc (.cells ca.toArray 83)) (zab.rd_below ha B0.bel hhi) (zab.rd_below hr B0.bel hhi) (Nat.le_trans hhi B0.bel.size) (Nat.le_trans hhi B0.bel.size);obtain ⟨a6,ak6,a7,ak7,a8,ak8,rfl,-⟩:=zaw ha;obtain ⟨b6,bk6,b7,bk7,b8,bk8,rfl,-⟩:=zaw hr;clear B0 hB
 go_enter Tryz.func134,Tryz.ntmps134
 go_wp2_with (first | (refine zaF 83 (.tmp 2) rfl rfl (w.heap.size) rfl X1 Tryz.underlying83 zdI rfl ?_) | (refine zaF 83 (.tmp 1) rfl rfl p rfl X2 Tryz.underlying83 zdI rfl ?_))
 refine CS.mono ?_;rintro e w1 ⟨t,rfl,ht,b1⟩;have HB1:=hid (HB0.out.trans (b1.mono HB0.out.size));have HT:=hid ht;clear CS b1 ht X1 X2;go_wp2;go_ret;exact ⟨t,rfl,HT.out,HB1.out⟩
set_option maxRecDepth 100000 in
theorem zfL (v:Value) (m:Nat) (y:Nat→RecD) (r:RecD) (cr:List Value) (hi p:Nat) (w:World) (h:(zab.slice 83).rd w hi (m,y) [v]) (hr:zab.rd w hi r cr) (hB:Box w p cr.toArray 83) (hhi:hi≤w.heap.size) (hm:m≤1048576) :
 Calls Tryz.prog 110 #[v,.func (.func 134) #[] #[.pointer (some ⟨p,0,none⟩)]] w fun e w'=>((e=.returned (.int .i64 (-1))∧∀ i,i<m→¬ SameR (y i) r)∨∃ i:Nat,i<m∧e=.returned (.int .i64 (i:Int))∧SameR (y i) r)∧Below w.heap.size w w':=by
 obtain ⟨ao,cap,e,hmm,hc⟩:=h
 obtain rfl:v=.slice ao m cap:=by simpa using e
 have hpl:=hB.lt;have HBx:=hid hB;have HR:=hid hr;have HCC:=hc;have HC:=hid hc;clear hB hr e hmm hc HCC
 go_enter Tryz.func110,Tryz.ntmps110
 go_wp2
 go_loopw [8] (fun z wr=>∃ k:Nat,k≤m∧z=.int .i64 k∧(∀ t,t<k→¬ SameR (y t) r)∧Below w.heap.size w wr) (fun z _=>m-(intOf z).toNat)
 case atStart=>exact ⟨0,Nat.zero_le _,rfl,fun t ht=>by omega,Below.refl _ _⟩
 case round=>
  obtain ⟨k,hk,rfl,hall,hbl⟩:=hrel;obtain ⟨wx,rfl⟩:∃ y,y=wr:=⟨_,rfl⟩;have HALL:=hid hall;have HBL:=hid hbl;have zx:=hbl.size;clear hall
  by_cases hlt:k<m
  ·obtain ⟨b,off,rfl,hbh,hel⟩:=HC.out (by omega)
   obtain ⟨ce,hy,hcell⟩:=zau (t:=83) hel hbl hhi hbh hlt;have CS:=zi1 (y k) r ce cr hi p wx hy (zab.rd_below HR.out hbl hhi) (HBx.out.below hbl hpl) (by omega);obtain ⟨c6,ck6,c7,ck7,c8,ck8,rfl,-⟩:=zaw hy;have hcell:∀ j,j<9→wx.cell? ⟨b,off+(k*9+j),none⟩=[.int .i64 (y k).kind,.int .i64 (y k).seq,.string (y k).name,.int .i64 (y k).length,.int .i64 (y k).group,.int .i64 (y k).row,.slice c6 (y k).rows.1 ck6,.slice c7 (y k).data.1 ck7,.slice c8 (y k).delta.1 ck8][j]?:=hcell
   have s_0:wx.cell? ⟨b,off+k*9,none⟩=some (.int .i64 (y k).kind):=by have:=hcell 0 (by decide);rw [← Nat.add_assoc] at this;exact this
   have s_1:wx.cell? ⟨b,off+k*9+1,none⟩=some (.int .i64 (y k).seq):=by have:=hcell 1 (by decide);rw [← Nat.add_assoc] at this;exact this
   have s_2:wx.cell? ⟨b,off+k*9+2,none⟩=some (.string (y k).name):=by have:=hcell 2 (by decide);rw [← Nat.add_assoc] at this;exact this
   have s_3:wx.cell? ⟨b,off+k*9+3,none⟩=some (.int .i64 (y k).length):=by have:=hcell 3 (by decide);rw [← Nat.add_assoc] at this;exact this
   have s_4:wx.cell? ⟨b,off+k*9+4,none⟩=some (.int .i64 (y k).group):=by have:=hcell 4 (by decide);rw [← Nat.add_assoc] at this;exact this
   have s_5:wx.cell? ⟨b,off+k*9+5,none⟩=some (.int .i64 (y k).row):=by have:=hcell 5 (by decide);rw [← Nat.add_assoc] at this;exact this
   have s_6:wx.cell? ⟨b,off+k*9+6,none⟩=some (.slice c6 (y k).rows.1 ck6):=by have:=hcell 6 (by decide);rw [← Nat.add_assoc] at this;exact this
   have s_7:wx.cell? ⟨b,off+k*9+7,none⟩=some (.slice c7 (y k).data.1 ck7):=by have:=hcell 7 (by decide);rw [← Nat.add_assoc] at this;exact this
   have s_8:wx.cell? ⟨b,off+k*9+8,none⟩=some (.slice c8 (y k).delta.1 ck8):=by have:=hcell 8 (by decide);rw [← Nat.add_assoc] at this;exact this
   have i1:(0:Int)≤(k:Int):=by omega
   have i2:(k:Int)<(m:Int):=by omega
   clear hbl hcell hel
   go_wp2_with fail
   refine CS.mono ?_;rintro e w5 ⟨t,rfl,ht,b5⟩;have B5:=hid (HBL.out.trans (b5.mono zx));have HT:=hid ht;clear b5 CS ht hy
   cases t with
   | true=>
    go_wp2;go_ret;exact ⟨.inr ⟨k,hlt,rfl,HT.out.1 (by simp)⟩,B5.out⟩
   | false=>
    go_wp2
    go_roundw
    case rel=>exact ⟨k+1,by omega,by go_num,fun t ht=>by
     by_cases c:t=k
     ·rw [c];intro hs;exact absurd (HT.out.2 hs) (by simp)
     ·exact HALL.out t (by omega),B5.out⟩
    case measure=>simp [intOf];omega
  ·obtain rfl:k=m:=by omega
   clear hbl;go_wp2;go_ret;exact ⟨.inl ⟨rfl,HALL.out⟩,HBL.out⟩
set_option maxRecDepth 100000 in
theorem zeg (v:Value) (m:Nat) (y:Nat→RecD) (r:RecD) (cr:List Value) (hi p:Nat) (w:World) (h:(zab.slice 83).rd w hi (m,y) [v]) (hr:zab.rd w hi r cr) (hB:Box w p cr.toArray 83) (hhi:hi≤w.heap.size) (hm:m≤1048576) :
 Calls Tryz.prog 133 #[v,.func (.func 134) #[] #[.pointer (some ⟨p,0,none⟩)]] w (zaT (∃ i,i<m∧SameR (y i) r) w):=by
 have CS:=zfL v m y r cr hi p w h hr hB hhi hm;clear h hr hB
 go_enter Tryz.func133,Tryz.ntmps133
 go_wp2_with fail
 refine CS.mono ?_;rintro e w1 ⟨⟨rfl,hn⟩ | ⟨i,hi',rfl,hs⟩,b1⟩
 ·have HN:=hid hn
  have HB:=hid b1;clear hn b1 CS;go_wp2;go_ret;exact zak rfl (fun ⟨i,h1,h2⟩=>HN.out i h1 h2) HB.out
 ·have HS:=hid hs
  have HB:=hid b1
  have hd:decide ((0:Int)≤(i:Int))=true:=by simp
  clear hs b1 CS;go_wp2;go_ret;exact zaC (by simp) ⟨i,hi',HS.out⟩ HB.out
set_option maxRecDepth 100000 in
theorem zdX (v:Value) (m:Nat) (y:Nat→RecD) (r:RecD) (cr:List Value) (hi:Nat) (w:World) (h:(zab.slice 83).rd w hi (m,y) [v]) (hr:zab.rd w hi r cr) (hhi:hi≤w.heap.size) (hm:m≤1048576) :
 Calls Tryz.prog 106 #[v,.agg cr.toArray] w (zaT (∃ i,i<m∧SameR (y i) r) w):=by
 have B0:=zaE w cr.toArray 83;have HB0:=hid B0.bel;have CS:=zeg v m y r cr hi w.heap.size (w.alloc (.cells cr.toArray 83)) (Lay.rd_below _ h B0.bel hhi) (zab.rd_below hr B0.bel hhi) B0.b1 (Nat.le_trans hhi B0.bel.size) hm;obtain ⟨b6,bk6,b7,bk7,b8,bk8,rfl,-⟩:=zaw hr;clear B0 h
 go_enter Tryz.func106,Tryz.ntmps106
 go_wp2_with fail
 refine CS.mono ?_;rintro e w1 ⟨t,rfl,ht,b1⟩;have HB1:=hid (HB0.out.trans (b1.mono HB0.out.size));have HT:=hid ht;clear CS b1 ht;go_wp2;go_ret;exact ⟨t,rfl,HT.out,HB1.out⟩
theorem zcu:ElInfo zab 30 83 128 [.int .i64 0,.int .i64 0,.string ByteArray.empty,.int .i64 0,.int .i64 0,.int .i64 0,.slice none 0 0,.slice none 0 0,.slice none 0 0]:=⟨by decide,rfl,Tryz.underlying30,by kernel_rfl,by decide⟩
set_option maxRecDepth 20000 in
theorem zi2:ToV zab zaH 62:=fun cs d hi w r hhi hn=>by
 obtain ⟨ao6,cap6,ao7,cap7,ao8,cap8,rfl,h6,h7,h8,k0,k1,k2,k3,k4,k5⟩:=zaw r;clear r;unfold zaH at hn;have R6:=hid h6;have R7:=hid h7;have R8:=hid h8;clear h6 h7 h8;have Q0:=hid k0;have Q1:=hid k1;have Q2:=hid k2;have Q3:=hid k3;have Q4:=hid k4;have Q5:=hid k5;clear k0 k1 k2 k3 k4 k5;have T0:=zaD w (rwR d ao6 cap6 ao7 cap7 ao8 cap8).toArray #[.int .i64 0,.int .i64 0,.string ByteArray.empty,.int .i64 0,.int .i64 0,.int .i64 0,.slice none 0 0,.slice none 0 0,.slice none 0 0] 83 83
 go_enter Tryz.func62,Tryz.ntmps62
 go_wp2_with fail
 refine (zhy _ d.rows hi _ (zaj.rd_below R6.out T0.bel hhi) (Nat.le_trans hhi T0.bel.size) (by omega)).mono ?_;rintro e w1 ⟨v0,rfl,o0,b0⟩;obtain ⟨bo6,bcap6,hv⟩:=zdc o0;obtain rfl:=zba hv;clear hv;have T0c:=T0.call b0;have z0:=T0.b2.lt;have y0:=b0.size;have c0_6:w1.cell? ⟨w.heap.size,6,none⟩=some (.slice ao6 d.rows.1 cap6):=T0c.b1.cell 6;have c0f_6:w1.frozen? ⟨w.heap.size,6,none⟩=false:=T0c.b1.frozen 6;have T1x:Two w (w1.setCell ⟨w.heap.size,6,none⟩ (.slice bo6 d.rows.1 bcap6)) (rwR d bo6 bcap6 ao7 cap7 ao8 cap8).toArray #[.int .i64 0,.int .i64 0,.string ByteArray.empty,.int .i64 0,.int .i64 0,.int .i64 0,.slice none 0 0,.slice none 0 0,.slice none 0 0] 83 83:=⟨T0c.b1.stL [.slice bo6 d.rows.1 bcap6] 6,T0c.b2.seto _ _ (by omega),T0c.bel.setCell (Nat.le_refl _) _⟩;have O6_0:=(o0.stN w.heap.size 6 [.slice bo6 d.rows.1 bcap6] (by omega))
 have e1:(w1.setCell ⟨w.heap.size,6,none⟩ (.slice bo6 d.rows.1 bcap6)).heap.size=w1.heap.size:=by simp
 clear o0 b0
 go_upto_region 2 with fail
 obtain ⟨W1,hW1⟩:∃ x,x=w1.setCell ⟨w.heap.size,6,none⟩ (.slice bo6 d.rows.1 bcap6):=⟨_,rfl⟩
 have O6:Hid (OwnT zaj W1 (w.heap.size+1+1) (w1.heap.size) d.rows [.slice bo6 d.rows.1 bcap6]):=by rw [hW1];exact OwnT.weaken O6_0 (by simp) (Nat.le_refl _)
 rw [← hW1] at T1x e1 ⊢;clear hW1 O6_0 T0c c0_6 c0f_6;have a1_7:W1.cell? ⟨w.heap.size,7,none⟩=some (.slice ao7 d.data.1 cap7):=T1x.b1.cell 7
 go_wp2_with fail
 refine (zd7 _ d.data hi _ (zac.rd_below R7.out T1x.bel hhi) (Nat.le_trans hhi T1x.bel.size) (by omega)).mono ?_;rintro e w2 ⟨v1,rfl,o1,b1⟩;obtain ⟨bo7,bcap7,hv⟩:=zby o1;obtain rfl:=zba hv;clear hv;have T1c:=T1x.call b1;have z1:=T1x.b2.lt;have y1:=b1.size;have c1_7:w2.cell? ⟨w.heap.size,7,none⟩=some (.slice ao7 d.data.1 cap7):=T1c.b1.cell 7;have c1f_7:w2.frozen? ⟨w.heap.size,7,none⟩=false:=T1c.b1.frozen 7;have T2x:Two w (w2.setCell ⟨w.heap.size,7,none⟩ (.slice bo7 d.data.1 bcap7)) (rwR d bo6 bcap6 bo7 bcap7 ao8 cap8).toArray #[.int .i64 0,.int .i64 0,.string ByteArray.empty,.int .i64 0,.int .i64 0,.int .i64 0,.slice none 0 0,.slice none 0 0,.slice none 0 0] 83 83:=⟨T1c.b1.stL [.slice bo7 d.data.1 bcap7] 7,T1c.b2.seto _ _ (by omega),T1c.bel.setCell (Nat.le_refl _) _⟩;have O6_1:=(O6.out.call b1).stN w.heap.size 7 [.slice bo7 d.data.1 bcap7] (by omega);have O7_1:=(o1.stN w.heap.size 7 [.slice bo7 d.data.1 bcap7] (by omega))
 have e2:(w2.setCell ⟨w.heap.size,7,none⟩ (.slice bo7 d.data.1 bcap7)).heap.size=w2.heap.size:=by simp
 clear o1 b1 O6 T1x a1_7
 go_upto_region 3 with fail
 obtain ⟨W2,hW2⟩:∃ x,x=w2.setCell ⟨w.heap.size,7,none⟩ (.slice bo7 d.data.1 bcap7):=⟨_,rfl⟩
 have O6:Hid (OwnT zaj W2 (w.heap.size+1+1) (w1.heap.size) d.rows [.slice bo6 d.rows.1 bcap6]):=by rw [hW2];exact O6_1
 have O7:Hid (OwnT zac W2 (W1.heap.size) (w2.heap.size) d.data [.slice bo7 d.data.1 bcap7]):=by rw [hW2];exact O7_1
 rw [← hW2] at T2x e2 ⊢;clear hW2 O6_1 O7_1 T1c c1_7 c1f_7;have a2_8:W2.cell? ⟨w.heap.size,8,none⟩=some (.slice ao8 d.delta.1 cap8):=T2x.b1.cell 8
 go_wp2_with fail
 refine (zd7 _ d.delta hi _ (zac.rd_below R8.out T2x.bel hhi) (Nat.le_trans hhi T2x.bel.size) (by omega)).mono ?_;rintro e w3 ⟨v2,rfl,o2,b2⟩;obtain ⟨bo8,bcap8,hv⟩:=zby o2;obtain rfl:=zba hv;clear hv;have T2c:=T2x.call b2;have z2:=T2x.b2.lt;have y2:=b2.size;have c2_8:w3.cell? ⟨w.heap.size,8,none⟩=some (.slice ao8 d.delta.1 cap8):=T2c.b1.cell 8;have c2f_8:w3.frozen? ⟨w.heap.size,8,none⟩=false:=T2c.b1.frozen 8;have T3x:Two w (w3.setCell ⟨w.heap.size,8,none⟩ (.slice bo8 d.delta.1 bcap8)) (rwR d bo6 bcap6 bo7 bcap7 bo8 bcap8).toArray #[.int .i64 0,.int .i64 0,.string ByteArray.empty,.int .i64 0,.int .i64 0,.int .i64 0,.slice none 0 0,.slice none 0 0,.slice none 0 0] 83 83:=⟨T2c.b1.stL [.slice bo8 d.delta.1 bcap8] 8,T2c.b2.seto _ _ (by omega),T2c.bel.setCell (Nat.le_refl _) _⟩;have O6_2:=(O6.out.call b2).stN w.heap.size 8 [.slice bo8 d.delta.1 bcap8] (by omega);have O7_2:=(O7.out.call b2).stN w.heap.size 8 [.slice bo8 d.delta.1 bcap8] (by omega);have O8_2:=(o2.stN w.heap.size 8 [.slice bo8 d.delta.1 bcap8] (by omega))
 have e3:(w3.setCell ⟨w.heap.size,8,none⟩ (.slice bo8 d.delta.1 bcap8)).heap.size=w3.heap.size:=by simp
 clear o2 b2 O6 O7 T2x a2_8
 go_upto_region 4 with fail
 obtain ⟨W3,hW3⟩:∃ x,x=w3.setCell ⟨w.heap.size,8,none⟩ (.slice bo8 d.delta.1 bcap8):=⟨_,rfl⟩
 have O6:Hid (OwnT zaj W3 (w.heap.size+1+1) (w1.heap.size) d.rows [.slice bo6 d.rows.1 bcap6]):=by rw [hW3];exact O6_2
 have O7:Hid (OwnT zac W3 (W1.heap.size) (w2.heap.size) d.data [.slice bo7 d.data.1 bcap7]):=by rw [hW3];exact O7_2
 have O8:Hid (OwnT zac W3 (W2.heap.size) (w3.heap.size) d.delta [.slice bo8 d.delta.1 bcap8]):=by rw [hW3];exact O8_2
 rw [← hW3] at T3x e3 ⊢;clear hW3 O6_2 O7_2 O8_2 T2c c2_8 c2f_8;have y_0:W3.cell? ⟨w.heap.size,0,none⟩=some (.int .i64 d.kind):=T3x.b1.cell 0;have y_1:W3.cell? ⟨w.heap.size,1,none⟩=some (.int .i64 d.seq):=T3x.b1.cell 1;have y_2:W3.cell? ⟨w.heap.size,2,none⟩=some (.string d.name):=T3x.b1.cell 2;have y_3:W3.cell? ⟨w.heap.size,3,none⟩=some (.int .i64 d.length):=T3x.b1.cell 3;have y_4:W3.cell? ⟨w.heap.size,4,none⟩=some (.int .i64 d.group):=T3x.b1.cell 4;have y_5:W3.cell? ⟨w.heap.size,5,none⟩=some (.int .i64 d.row):=T3x.b1.cell 5;have y_6:W3.cell? ⟨w.heap.size,6,none⟩=some (.slice bo6 d.rows.1 bcap6):=T3x.b1.cell 6;have y_7:W3.cell? ⟨w.heap.size,7,none⟩=some (.slice bo7 d.data.1 bcap7):=T3x.b1.cell 7;have y_8:W3.cell? ⟨w.heap.size,8,none⟩=some (.slice bo8 d.delta.1 bcap8):=T3x.b1.cell 8;have r_0:W3.cell? ⟨w.heap.size+1,0,none⟩=some (.int .i64 0):=T3x.b2.cell 0;have rf_0:W3.frozen? ⟨w.heap.size+1,0,none⟩=false:=T3x.b2.frozen 0;have r_1:W3.cell? ⟨w.heap.size+1,1,none⟩=some (.int .i64 0):=T3x.b2.cell 1;have rf_1:W3.frozen? ⟨w.heap.size+1,1,none⟩=false:=T3x.b2.frozen 1;have r_2:W3.cell? ⟨w.heap.size+1,2,none⟩=some (.string ByteArray.empty):=T3x.b2.cell 2;have rf_2:W3.frozen? ⟨w.heap.size+1,2,none⟩=false:=T3x.b2.frozen 2;have r_3:W3.cell? ⟨w.heap.size+1,3,none⟩=some (.int .i64 0):=T3x.b2.cell 3;have rf_3:W3.frozen? ⟨w.heap.size+1,3,none⟩=false:=T3x.b2.frozen 3;have r_4:W3.cell? ⟨w.heap.size+1,4,none⟩=some (.int .i64 0):=T3x.b2.cell 4;have rf_4:W3.frozen? ⟨w.heap.size+1,4,none⟩=false:=T3x.b2.frozen 4;have r_5:W3.cell? ⟨w.heap.size+1,5,none⟩=some (.int .i64 0):=T3x.b2.cell 5;have rf_5:W3.frozen? ⟨w.heap.size+1,5,none⟩=false:=T3x.b2.frozen 5;have r_6:W3.cell? ⟨w.heap.size+1,6,none⟩=some (.slice none 0 0):=T3x.b2.cell 6;have rf_6:W3.frozen? ⟨w.heap.size+1,6,none⟩=false:=T3x.b2.frozen 6;have r_7:W3.cell? ⟨w.heap.size+1,7,none⟩=some (.slice none 0 0):=T3x.b2.cell 7;have rf_7:W3.frozen? ⟨w.heap.size+1,7,none⟩=false:=T3x.b2.frozen 7;have r_8:W3.cell? ⟨w.heap.size+1,8,none⟩=some (.slice none 0 0):=T3x.b2.cell 8;have rf_8:W3.frozen? ⟨w.heap.size+1,8,none⟩=false:=T3x.b2.frozen 8;have HB:=hid T3x.bel;have zz:=T3x.b2.lt;clear T3x;go_wp2;refine bodyPost_ret (v:=.agg (rwR d bo6 bcap6 bo7 bcap7 bo8 bcap8).toArray) (by simp [results,Tryz.results62,go_sem,r_0,y_0,r_1,y_1,r_2,y_2,r_3,y_3,r_4,y_4,r_5,y_5,r_6,y_6,r_7,y_7,r_8,y_8]) rfl ?_;have F:OwnT zab W3 (w.heap.size+1+1) w3.heap.size d ([.int .i64 d.kind]++([.int .i64 d.seq]++([.string d.name]++([.int .i64 d.length]++([.int .i64 d.group]++([.int .i64 d.row]++([.slice bo6 d.rows.1 bcap6]++([.slice bo7 d.data.1 bcap7]++[.slice bo8 d.delta.1 bcap8])))))))):=OwnT.conv (OwnT.pre (A:=layI) (a:=d.kind) (c:=[.int .i64 d.kind]) ⟨rfl,Q0.out,rfl⟩ (OwnT.pre (A:=layI) (a:=d.seq) (c:=[.int .i64 d.seq]) ⟨rfl,Q1.out,rfl⟩ (OwnT.pre (A:=layS) (a:=d.name) (c:=[.string d.name]) ⟨rfl,Q2.out,rfl⟩ (OwnT.pre (A:=layI) (a:=d.length) (c:=[.int .i64 d.length]) ⟨rfl,Q3.out,rfl⟩ (OwnT.pre (A:=layI) (a:=d.group) (c:=[.int .i64 d.group]) ⟨rfl,Q4.out,rfl⟩ (OwnT.pre (A:=layI) (a:=d.row) (c:=[.int .i64 d.row]) ⟨rfl,Q5.out,rfl⟩ (OwnT.two O6.out (OwnT.two O7.out O8.out (by omega) (by omega) (by omega)) (by omega) (by omega) (by omega))))))))
 refine ⟨(rwR d bo6 bcap6 bo7 bcap7 bo8 bcap8),rfl,?_,?_⟩
 ·exact OwnT.finb (F.weaken (Nat.le_refl _) (by omega)) (b:=w.heap.size+1) (by omega) (by omega) 0 (rwR d bo6 bcap6 bo7 bcap7 bo8 bcap8) _ rfl
 ·exact HB.out.trans (zbr (by omega) (rwR d bo6 bcap6 bo7 bcap7 bo8 bcap8) 0)
set_option maxRecDepth 20000 in
theorem zhD:ToF (zab.slice 83) (szSl zaH) 61 62:=fun v d hi w h hhi hn=>by
 obtain ⟨n,x⟩:=d;obtain ⟨ao,cap,hv,hm,hc⟩:=h
 cases hv
 have hn1:=zev hn;have hn2:∀ i,i<n→zaH (x i)≤1048576:=fun i hi=>zcx hn hi
 simp only at hn1 hm hc
 clear hn
 go_enter Tryz.func61,Tryz.ntmps61
 go_wp2_with (at_make;refine zda zab [.int .i64 0,.int .i64 0,.string ByteArray.empty,.int .i64 0,.int .i64 0,.int .i64 0,.slice none 0 0,.slice none 0 0,.slice none 0 0] _ 83 128 (zcu).hs rfl Tryz.underlying30 (zcu).hi x (fun _=>[]) _ rfl _ _ rfl _ _ n rfl rfl rfl rfl (by omega) (by omega) ?_;intro w1 sp1 hb1)
 go_loopw [12] (fun i wr=>∃ k:Nat,k≤n∧i=.int .i64 k∧∃ ce Ls,SlP zab 83 wr w.heap.size w.heap.size n n k x ce Ls∧Below w.heap.size w wr) (fun i _=>n-(intOf i).toNat)
 case atStart=>exact ⟨0,Nat.zero_le _,rfl,_,_,sp1,hb1⟩
 case round=>
  clear sp1 hb1;obtain ⟨k,hk,rfl,ce,Ls,sp,hb⟩:=hrel
  by_cases hlt:k<n
  ·obtain ⟨b,off,rfl,hblt,hel⟩:=hc (by omega)
   obtain ⟨ck,hrk,hcell⟩:=zau (t:=0) hel hb hhi hblt hlt;obtain ⟨ao6,cap6,ao7,cap7,ao8,cap8,rfl,-⟩:=zaw hrk;have c0:wr.cell? ⟨b,off+k*9,none⟩=some (.int .i64 (x k).kind):=hcell 0 (by decide);have c1:wr.cell? ⟨b,off+k*9+1,none⟩=some (.int .i64 (x k).seq):=hcell 1 (by decide);have c2:wr.cell? ⟨b,off+k*9+2,none⟩=some (.string (x k).name):=hcell 2 (by decide);have c3:wr.cell? ⟨b,off+k*9+3,none⟩=some (.int .i64 (x k).length):=hcell 3 (by decide);have c4:wr.cell? ⟨b,off+k*9+4,none⟩=some (.int .i64 (x k).group):=hcell 4 (by decide);have c5:wr.cell? ⟨b,off+k*9+5,none⟩=some (.int .i64 (x k).row):=hcell 5 (by decide);have c6:wr.cell? ⟨b,off+k*9+6,none⟩=some (.slice ao6 (x k).rows.1 cap6):=hcell 6 (by decide);have c7:wr.cell? ⟨b,off+k*9+7,none⟩=some (.slice ao7 (x k).data.1 cap7):=hcell 7 (by decide);have c8:wr.cell? ⟨b,off+k*9+8,none⟩=some (.slice ao8 (x k).delta.1 cap8):=hcell 8 (by decide);clear hc hel hcell
   go_wp2_with fail
   refine (zi2 _ (x k) hi wr hrk (Nat.le_trans hhi hb.size) (hn2 k hlt)).mono ?_;rintro e w2 ⟨cs',rfl,o2,hb2⟩;obtain ⟨bao6,bcap6,bao7,bcap7,bao8,bcap8,rfl⟩:=zez o2;obtain ⟨z0,s0⟩:=sp.some hb2 hlt (show 0<zab.sz by decide);have s0:w2.cell? ⟨w.heap.size,k*9,none⟩=some z0:=s0;have sf0:=(sp.below hb2).frozen (k*9);obtain ⟨z1,s1⟩:=sp.some hb2 hlt (show 1<zab.sz by decide);have s1:w2.cell? ⟨w.heap.size,k*9+1,none⟩=some z1:=s1;have sf1:=(sp.below hb2).frozen (k*9+1);obtain ⟨z2,s2⟩:=sp.some hb2 hlt (show 2<zab.sz by decide);have s2:w2.cell? ⟨w.heap.size,k*9+2,none⟩=some z2:=s2;have sf2:=(sp.below hb2).frozen (k*9+2);obtain ⟨z3,s3⟩:=sp.some hb2 hlt (show 3<zab.sz by decide);have s3:w2.cell? ⟨w.heap.size,k*9+3,none⟩=some z3:=s3;have sf3:=(sp.below hb2).frozen (k*9+3);obtain ⟨z4,s4⟩:=sp.some hb2 hlt (show 4<zab.sz by decide);have s4:w2.cell? ⟨w.heap.size,k*9+4,none⟩=some z4:=s4;have sf4:=(sp.below hb2).frozen (k*9+4);obtain ⟨z5,s5⟩:=sp.some hb2 hlt (show 5<zab.sz by decide);have s5:w2.cell? ⟨w.heap.size,k*9+5,none⟩=some z5:=s5;have sf5:=(sp.below hb2).frozen (k*9+5);obtain ⟨z6,s6⟩:=sp.some hb2 hlt (show 6<zab.sz by decide);have s6:w2.cell? ⟨w.heap.size,k*9+6,none⟩=some z6:=s6;have sf6:=(sp.below hb2).frozen (k*9+6);obtain ⟨z7,s7⟩:=sp.some hb2 hlt (show 7<zab.sz by decide);have s7:w2.cell? ⟨w.heap.size,k*9+7,none⟩=some z7:=s7;have sf7:=(sp.below hb2).frozen (k*9+7);obtain ⟨z8,s8⟩:=sp.some hb2 hlt (show 8<zab.sz by decide);have s8:w2.cell? ⟨w.heap.size,k*9+8,none⟩=some z8:=s8;have sf8:=(sp.below hb2).frozen (k*9+8);have N:=sp.next hb2 hlt o2 hb.size;have N2:Below w.heap.size w (stN w2 w.heap.size (k*zab.sz) [.int .i64 (x k).kind,.int .i64 (x k).seq,.string (x k).name,.int .i64 (x k).length,.int .i64 (x k).group,.int .i64 (x k).row,.slice bao6 (x k).rows.1 bcap6,.slice bao7 (x k).data.1 bcap7,.slice bao8 (x k).delta.1 bcap8]):=(hb.trans (hb2.mono hb.size)).trans (zbr (Nat.le_refl _) _ _);clear o2 hb2 sp hb
   go_wp2_with fail
   go_roundw
   case rel=>
    obtain ⟨ce',Ls',N⟩:=N;exact ⟨k+1,by omega,by go_num,ce',Ls',N,N2⟩
   case measure=>simp [intOf];omega
  ·obtain rfl:k=n:=by omega
   go_wp2;go_ret;exact ⟨_,rfl,sp.done (Nat.le_refl _),hb⟩
def lenT (tp:Nat→TapeD):Nat→Nat
 | 0=>0
 | k+1=>lenT tp k+(tp k).recs.1
def recT (tp:Nat→TapeD):Nat→Nat→RecD
 | 0=>(tp 0).recs.2
 | k+1=>cat2 (recT tp k) (lenT tp k) (tp k).recs.2
theorem zjY (x0:Nat→RecD) (enc:Nat→List Value) (v:Value) (N lo hi:Nat) (w:World) (V:View zab 83 w lo hi v N x0 enc) (hlo:hi≤lo) (hN:N<1000000000) (hlw:lo≤w.heap.size) :
 Calls Tryz.prog 104 #[v,.func (.func 105) #[] #[]] w (fun e w'=>e=.returned (.tuple #[])∧∃ q,View zab 83 w' lo hi v N (fun i=>x0 (q i)) (fun i=>enc (q i))∧Sym.Re 0 N (fun i=>i) q∧Sym.Srt (numL x0) q 0 N∧Below lo w w'):=by
 rcases V.form2 with ⟨rfl,rfl⟩ | ⟨g,cap,rfl,hnc,hg⟩
 ·refine (ze9 w).mono fun e w' ⟨h1,h2⟩=>⟨h1,fun i=>i,V.below h2 (by omega),Sym.Re.refl _ _ _,fun i j _ _ h=>by omega,h2.mono hlw⟩
 ·have hlo':=V.row.lt g rfl
  refine (ze8 x0 enc N g cap lo hi w V hlo hN).mono fun e w' ⟨h1,q,h2,h3,h4,h5⟩=>⟨h1,q,h2,h3,h4,h5.bel (fun b hb=>by simp at hb;omega) hlw⟩
theorem zeT:(Tryz.prog.info? 83).map (fun i=>(i.zero.map (·.cells),i.size))=some (some #[.int .i64 0,.int .i64 0,.string ByteArray.empty,.int .i64 0,.int .i64 0,.int .i64 0,.slice none 0 0,.slice none 0 0,.slice none 0 0],9):=by kernel_rfl
set_option maxRecDepth 100000 in
theorem zfM (tp:Nat→TapeD) (v:Value) (hi:Nat) (w:World) (h:(zam.slice 79).rd w hi (2,tp) [v]) (hhi:hi≤w.heap.size) (hn0:(tp 0).recs.1≤400000) (hn1:(tp 1).recs.1≤400000) :
 Calls Tryz.prog 63 #[v] w (fun e w'=>∃ v' l ce lo,e=.returned v'∧Cnt (recT tp 2) (lenT tp 2) l∧w.heap.size≤lo∧View zab 83 w' lo hi v' l.length (fun i=>recT tp 2 (l.getD i 0)) ce∧Below w.heap.size w w'):=by
 obtain ⟨ao,cap,e,hmm,hc⟩:=h
 obtain rfl:v=.slice ao 2 cap:=by simpa using e
 obtain ⟨b,off,rfl,hbh,hel⟩:=hc (by simp);have hel:∀ i,i<2→∃ ce,zam.rd w hi (tp i) ce∧∀ j,j<zam.sz→w.cell? ⟨b,off+(i*zam.sz+j),none⟩=ce[j]?:=hel;have HEL:=hid hel;clear e hmm hc hel
 go_enter Tryz.func63,Tryz.ntmps63
 go_wp2
 go_loopw [3,12] (fun va i wr=>∃ (k:Nat) (ce:Nat→List Value),k≤2∧i=.int .i64 k∧View zab 83 wr w.heap.size hi va (lenT tp k) (recT tp k) ce∧Below w.heap.size w wr) (fun _ i _=>2-(intOf i).toNat)
 case atStart=>exact ⟨0,fun _=>[],by omega,rfl,View.nil _ _ _ _ _,Below.refl _ _⟩
 case round=>
  obtain ⟨k,ce,hk,rfl,V,bw⟩:=hrel;have zr:=bw.size;have HV:=hid V;have HBW:=hid bw
  by_cases hlt:k<2
  ·obtain ⟨ct,hy,hcell⟩:=zau (t:=79) HEL.out bw hhi hbh hlt
   obtain ⟨ao1,cap1,rfl,hrs⟩:=zbs hy;have c0:wr.cell? ⟨b,off+k*2,none⟩=some (.bool (tp k).wiped):=hcell 0 (by decide)
   have c1:wr.cell? ⟨b,off+k*2+1,none⟩=some (.slice ao1 (tp k).recs.1 cap1):=by have:=hcell 1 (by decide);exact this
   have bA:=bAl wr (.cells #[.bool (tp k).wiped,.slice ao1 (tp k).recs.1 cap1] 79)
   have hL:lenT tp k+(tp k).recs.1≤10000000:=by
    have:k=0∨k=1:=by omega
    rcases this with rfl | rfl<;>simp only [lenT]<;>omega
   have hrs':(zab.slice 83).rd (wr.alloc (.cells #[.bool (tp k).wiped,.slice ao1 (tp k).recs.1 cap1] 79)) hi ((tp k).recs.1,(tp k).recs.2) [.slice ao1 (tp k).recs.1 cap1]:=Lay.rd_below _ hrs bA (by omega);obtain ⟨cy,hS,hz⟩:=zk3 hrs';obtain ⟨v3,w3,hrun,V3,_,b3⟩:=za7 zcu zaM 30 (HV.out.below bA (by omega)) cap1 hS (by simp;omega) (by omega) hL hz;have HV3:=hid V3;have HB3:Hid (Below w.heap.size w w3):=(HBW.out.trans (bA.mono zr)).trans b3
   have i1:(0:Int)≤(k:Int):=by omega
   have i2:(k:Int)<(2:Int):=by omega
   obtain ⟨ao9,cap9,rfl⟩:=V.form;obtain ⟨nT,hnT⟩:∃ n,n=(tp k).recs.1:=⟨_,rfl⟩;obtain ⟨nL,hnL⟩:∃ n,n=lenT tp k:=⟨_,rfl⟩;rw [← hnT] at c1 hrun;rw [← hnL] at hrun;have HnL:=hid hnL;rw [← hnL];clear V3 b3 bA hrs' hrs hcell hy hS V bw hL hz hnT hnL
   go_wp2_with (at_builtin;refine zcC rfl (.tmp 16) (.tmp 18) rfl ?_ ?_ hrun ?_;(simp [Act.eval]);(simp [Act.eval]))
   clear hrun;go_wp2
   go_roundw
   case rel=>exact ⟨k+1,_,by omega,by go_num,HV3.out,HB3.out⟩
   case measure=>simp [intOf];omega
  ·obtain rfl:k=2:=by omega
   have hN:lenT tp 2<1000000000:=by simp only [lenT];omega
   obtain ⟨N,hNe⟩:∃ N,N=lenT tp 2:=⟨_,rfl⟩;obtain ⟨x0,hx0⟩:∃ x,x=recT tp 2:=⟨_,rfl⟩;obtain ⟨enc,henc⟩:∃ x,x=ce:=⟨_,rfl⟩
   have hN':N≤800000:=by rw [hNe];simp only [lenT];omega
   rw [← hNe,← hx0,← henc] at V;rw [← hNe] at hN;have CS:=zjY x0 enc u3 N w.heap.size hi wr V hhi hN zr;have HNE:Hid (N=lenT tp 2∧x0=recT tp 2):=⟨hNe,hx0⟩;have HV0:=hid V;obtain ⟨aA,capA,hA⟩:=V.form;subst hA;clear V hlt hNe hx0 henc HV bw
   go_wp2_with fail
   refine CS.mono ?_;rintro ee w2 ⟨rfl,q,V2,hRe,hSrt,b2⟩;have HV2:=hid V2;have HRe:=hid hRe;have HSrt:=hid hSrt;have HB2:=hid (HBW.out.trans b2);have z2:w.heap.size≤w2.heap.size:=HB2.out.size;clear V2 hRe hSrt b2 CS HBW HV0;go_wp2
   go_loopw [4,7,25] (fun vo va vi wr=>∃ (k al:Nat) (l:List Nat) (co:Nat→List Value),k≤N∧vi=.int .i64 k∧va=.int .i64 al∧CntQ x0 q k l∧Alk x0 l al∧l.length≤k∧View zab 83 wr w2.heap.size hi vo l.length (fun i=>x0 (l.getD i 0)) co∧Below w2.heap.size w2 wr) (fun _ _ i _=>N-(intOf i).toNat)
   case atStart=>exact ⟨0,0,[],fun _=>[],Nat.zero_le _,rfl,rfl,CntQ.nil x0 q,Alk.start x0,Nat.le_refl _,View.nil _ _ _ _ _,Below.refl _ _⟩
   case round=>
    obtain ⟨k,al,l,co,hk,rfl,rfl,hCQ,hAl,hLk,V,bw⟩:=hrel;obtain ⟨n,hn⟩:∃ n,n=l.length:=⟨_,rfl⟩;have HN:=hid hn;have HCQ:=hid hCQ;have HAl:=hid hAl;have HLk:=hid hLk;rw [← hn] at V hLk;obtain ⟨ao,cap,hvo⟩:=V.form;subst hvo;have HVO:=hid V;have HBR:=hid bw;have zr2:w2.heap.size≤wr.heap.size:=bw.size
    by_cases hlt:k<N
    ·have VAr:=HV2.out.below bw (by omega)
     obtain ⟨gA,cA',hgA⟩:=VAr.form0 (by omega)
     have rgA:wr.rangeAt gA (k*9) (enc (q k)):=by rw [hgA] at VAr;exact VAr.range hlt
     obtain ⟨rfl,rfl⟩:aA=some ⟨gA,0,none⟩∧capA=cA':=by simpa using hgA
     have rdR:=VAr.each k hlt;have hcR:(enc (q k)).length=9:=VAr.lens k hlt;obtain ⟨cR,hcRe⟩:∃ c,c=enc (q k):=⟨_,rfl⟩
     have rdR':zab.rd wr hi (x0 (q k)) cR:=by rw [hcRe];exact rdR
     rw [← hcRe] at rgA hcR;have oneR:∀ v,v∈cR→v.oneCell'=true:=zaM _ _ _ _ rdR'
     have i1:(0:Int)≤(k:Int):=by omega
     have i2:(k:Int)<(N:Int):=by omega
     have bA:=bAl wr (.cells cR.toArray 83);have XA:=zao wr cR.toArray 83;have rdW:zab.rd (wr.alloc (.cells cR.toArray 83)) hi (x0 (q k)) cR:=zab.rd_below rdR' bA (by omega);clear VAr rdR hcRe hgA rdR' V bw hn hCQ hAl
     go_upto_region 12 with (first | (refine wpList_load_mid rfl 83 (.tmp 27) rfl gA (k*9) (by simp [Act.eval]) cR _ rgA Tryz.underlying83 rfl (zag hcR) ?_) | (refine zbe 83 9 (.tmp 28) cR _ 9 rfl rfl rfl rfl rfl rfl rfl rfl zeT rfl hcR oneR ?_))
     obtain ⟨W,hW⟩:∃ x,x=wr.alloc (.cells cR.toArray 83):=⟨_,rfl⟩;rw [← hW] at bA XA rdW ⊢;clear hW rgA;have HVOW:Hid (View zab 83 W w2.heap.size hi (.slice ao n cap) n (fun i=>x0 (l.getD i 0)) co):=HVO.out.below bA (by omega);have HXW:=hid XA;have HRW:=hid rdW;have HBW:=hid (HBR.out.trans (bA.mono zr2));have zW:w2.heap.size≤W.heap.size:=HBW.out.size;have zW':wr.heap.size<W.heap.size:=XA.lt;have bD:Below W.heap.size W W.drew:=⟨rfl,rfl,rfl,Nat.le_refl _,fun _ _=>rfl⟩;clear HVO HBR
     by_cases hne:n=0
     ·have hnil:l=[]:=List.eq_nil_of_length_eq_zero (by rw [← HN.out];exact hne)
      have HZ:=hid hne;have hal0:al=0:=HAl.out.nil hnil
      have HBf:Hid (∀ e,e∈l.take al→numC (x0 e) (x0 (q k))<0):=by
       show ∀ e,e∈l.take al→_
       rw [hnil];intro e he;simp at he
      have HAn:Hid (Alk x0 (l++[q k]) al):=by
       show Alk x0 (l++[q k]) al
       have:=Alk.open_ (x0:=x0) (l:=l) (r:=q k) (fun e he=>by rw [hnil] at he;simp at he);rw [← HN.out,hne,← hal0] at this;exact this
      have hal5:al≤n:=by omega
      have d1:decide (0<n)=false:=decide_eq_false (by omega);have d2:decide ((0:Int)<(n:Int))=false:=decide_eq_false (by omega);clear hnil hal0 hne rdW XA bA;refine zax 9 (fun w'=>True) zbC trivial (fun hHeld=>?_);refine zlN 0 rfl ?_
      try simp only [Act.put,SL]
      refine zlN 1 rfl ?_
      try simp only [Act.put,SL]
      refine zlN 2 rfl ?_
      try simp only [Act.put,SL]
      try rw [d1]
      refine zlN 3 rfl ?_
      try simp only [Act.put,SL]
      refine zlP 4 rfl ?_
      try simp only [Act.put,SL]
      refine zlP 5 rfl ?_
      try simp only [Act.put,SL]
      refine zlP 6 rfl ?_
      try simp only [Act.put,SL]
      refine zlP 7 rfl ?_
      try simp only [Act.put,SL]
      refine zlP 8 rfl ?_
      try simp only [Act.put,SL]
      refine zar (i:=9) (o:=_) rfl (by kernel_rfl) (by kernel_rfl) (fun KC hKC=>?_);refine zlj (by kernel_rfl) (hKC _ _ ?_);clear hKC KC
      try simp only [Act.put,SL]
      refine zai (i:=10) (oi:=_) (v:=undef) rfl (by kernel_rfl) (fun _ _ _ h=>h) (Or.inr ⟨by kernel_rfl,rfl⟩) ?_
      try simp only [Act.put,SL]
      refine zlz 11 (v:=?_) rfl ?_ ?_
      rotate_left
      ·intro w' hSw;go_simp;try with_reducible rfl
      try simp only [Act.put,SL]
      refine zas (by kernel_rfl) ?_ _;obtain ⟨w5,hw5⟩:∃ x,x=W.drew:=⟨_,rfl⟩;rw [← hw5] at bD ⊢;have b5':Below W.heap.size W w5:=bD;clear bD hw5 hHeld d1 d2;have HVO5:Hid (View zab 83 w5 w2.heap.size hi (.slice ao n cap) n (fun i=>x0 (l.getD i 0)) co):=HVOW.out.below b5' (by omega);have z5':W.heap.size≤w5.heap.size:=b5'.size;have HX5:=hid (HXW.out.below b5' HXW.out.lt);have HR5:Hid (zab.rd w5 hi (x0 (q k)) cR):=zab.rd_below HRW.out b5' (by omega);have HB5:=hid (HBW.out.trans (b5'.mono zW))
      have z5:w2.heap.size≤w5.heap.size:=by omega
      clear b5' HVOW HXW HRW HBW;have bD6:Below w5.heap.size w5 w5.drew:=⟨rfl,rfl,rfl,Nat.le_refl _,fun _ _=>rfl⟩;have V6:=HVO5.out.drew;obtain ⟨aS,cS,hSl,sS,rS,-⟩:=V6.from_ (show hi≤w5.drew.heap.size by show hi≤w5.heap.size;omega) (al:=al) hal5;have rdR6:zab.rd w5.drew w5.drew.heap.size (x0 (q k)) cR:=zab.rd_mono (zab.rd_below HR5.out bD6 (by omega)) (by show hi≤w5.heap.size;omega);have CH0:=zdX (.slice aS (n-al) cS) (n-al) (fun j=>x0 (l.getD (al+j) 0)) (x0 (q k)) cR w5.drew.heap.size w5.drew rS rdR6 (Nat.le_refl _) (by omega)
      have CH:Calls Tryz.prog 106 (#[.slice aS (n-al) cS,.agg cR.toArray]++#[]) w5.drew (zaT (∃ i,i<n-al∧SameR (x0 (l.getD (al+i) 0)) (x0 (q k))) w5.drew):=by rw [Array.append_empty];exact CH0
      have r6:w5.drew.rangeAt wr.heap.size 0 cR:=fun j v hv=>by
       have:=(HX5.out.cell j).trans (by simpa using hv);rw [Nat.zero_add];exact this
      clear CH0 rdR6 rS sS V6
      go_upto_region 14 with fail
      refine zax 4 (fun w'=>w'.rangeAt wr.heap.size 0 cR) zbC r6 (fun hHeld=>?_);refine zlN 0 rfl ?_
      try simp only [Act.put,SL]
      refine zlN 1 rfl ?_
      try simp only [Act.put,SL]
      refine zlL 2 (v:=?_) rfl ?_ ?_
      rotate_left
      ·intro w' hSw
       try rw [show (Instr.slice 30 (.slice ao n cap) (some (.int .i64 (al:Int))) none none).run Tryz.prog w'=_ from hSl w']
       have hSl':=hSl w';go_simp
       try with_reducible rfl
      try simp only [Act.put,SL]
      refine zaf (i:=3) (oi:=_) 16 rfl (by kernel_rfl) (fun _ _ _ h=>h) (yieldsIf_load_mid (by kernel_rfl) 83 (.tmp 9) rfl wr.heap.size (0) (by simp [Act.eval,Act.put]) cR _ (fun w h=>h) Tryz.underlying83 rfl (zag hcR)) (by assumption) ?_
      try simp only [Act.put,SL]
      refine zar (i:=4) (o:=_) rfl (by kernel_rfl) (by kernel_rfl) (fun KC hKC=>?_);refine zaY (by kernel_rfl) (.func 106) 106 #[] _ _ rfl (by simp [Act.eval,Act.put]) #[.slice aS (n-al) cS,.agg cR.toArray] (by simp [Act.eval,Act.put]) Tryz.func106 (by kernel_rfl) (by kernel_rfl) CH ?_;rintro ee w7 ⟨t,rfl,ht,b7⟩;refine ⟨_,rfl,?_⟩;refine hKC _ _ ?_;clear hKC KC
      try simp only [Act.put,SL]
      refine zlz 5 (v:=?_) rfl ?_ ?_
      rotate_left
      ·intro w' hSw;go_simp;try with_reducible rfl
      try simp only [Act.put,SL]
      refine zas (by kernel_rfl) ?_ _;have b7':Below w5.heap.size w5 w7:=bD6.trans b7;have z7:w5.heap.size≤w7.heap.size:=b7'.size;have HVO7:Hid (View zab 83 w7 w2.heap.size hi (.slice ao n cap) n (fun i=>x0 (l.getD i 0)) co):=HVO5.out.below b7' (by omega);have HX7:Hid (Box w7 wr.heap.size cR.toArray 83):=HX5.out.below b7' (by omega);have HR7:Hid (zab.rd w7 hi (x0 (q k)) cR):=zab.rd_below HR5.out b7' (by omega);have HB7:=hid (HB5.out.trans (b7'.mono z5))
      have HT:Hid (t=true↔¬ Fst x0 (q k)):=by
       show t=true↔¬ Fst x0 (q k)
       rw [ht,← HCQ.out.has HSrt.out HRe.out hlt HBf.out];rw [HN.out];exact (zb8 (l:=l) (al:=al) (P:=fun o=>SameR (x0 o) (x0 (q k)))).symm
      have hFR:Hid (t=true→al<n):=fun h=>by
       obtain ⟨i,hi',_⟩:=ht.1 h;omega
      clear ht b7 b7' bD6 CH hSl r6 hHeld HVO5 HX5 HR5 HB5
      cases t with
      | true=>
       exfalso
       have:=hFR.out (by simp);have:=HZ.out;omega
      | false=>
       have hF:Fst x0 (q k):=Classical.byContradiction fun h=>absurd (HT.out.2 h) (by simp);have HF:=hid hF;clear hF hFR HT;have RR:=HR7.out;have XX:=HX7.out;obtain ⟨b6,bk6,b7,bk7,b8,bk8,eR,-⟩:=zaw RR;have HER:=hid eR;rw [eR] at XX;have bA:=bAl w7 (.cells #[.int .i64 (x0 (q k)).kind,.int .i64 (x0 (q k)).seq,.string (x0 (q k)).name,.int .i64 (x0 (q k)).length,.int .i64 (x0 (q k)).group,.int .i64 (x0 (q k)).row,.slice b6 (x0 (q k)).rows.1 bk6,.slice b7 (x0 (q k)).data.1 bk7,.slice b8 (x0 (q k)).delta.1 bk8] 83)
       obtain ⟨v8,w8,hrun,V8,_,b8⟩:=za7 zcu zaM 30 (HVO7.out.below bA (by omega)) 1 (zdV (b:=w7.heap.size) (hi:=hi) (y:=x0 (q k)) (cs:=cR) (fun j hj=>by
        have:=(zao w7 #[.int .i64 (x0 (q k)).kind,.int .i64 (x0 (q k)).seq,.string (x0 (q k)).name,.int .i64 (x0 (q k)).length,.int .i64 (x0 (q k)).group,.int .i64 (x0 (q k)).row,.slice b6 (x0 (q k)).rows.1 bk6,.slice b7 (x0 (q k)).data.1 bk7,.slice b8 (x0 (q k)).delta.1 bk8] 83).cell j;rw [this,eR]
        simp) (zab.rd_below HR7.out bA (by omega))) (by simp;omega) (by omega) (by omega) (fun h=>by cases h)
       have HV8:Hid (View zab 83 w8 w2.heap.size hi v8 (l++[q k]).length (fun i=>x0 ((l++[q k]).getD i 0)) (cat2 co n (fun _=>cR))):=by
        have e:(l++[q k]).length=n+1:=by rw [List.length_append,← HN.out];rfl
        show View zab 83 w8 w2.heap.size hi v8 (l++[q k]).length (fun i=>x0 ((l++[q k]).getD i 0)) (cat2 co n (fun _=>cR))
        rw [e];refine V8.congr (fun i hi'=>?_)
        by_cases c:i<n
        ·rw [zbK _ _ c,zfJ (by rw [← HN.out];exact c)]
        ·obtain rfl:i=n:=by omega
         have e1:=zbS (fun i=>x0 (l.getD i 0)) i (fun _=>x0 (q k)) 0;rw [Nat.add_zero] at e1;rw [e1]
         show x0 (q k)=x0 ((l++[q k]).getD i 0)
         rw [HN.out,zdG]
       have HB8:Hid (Below w2.heap.size w2 w8):=(HB7.out.trans (bA.mono (by omega))).trans b8;clear V8 b8 bA RR eR;have u_0:w7.cell? ⟨wr.heap.size,0,none⟩=some (.int .i64 (x0 (q k)).kind):=XX.cell 0;have u_1:w7.cell? ⟨wr.heap.size,1,none⟩=some (.int .i64 (x0 (q k)).seq):=XX.cell 1;have u_2:w7.cell? ⟨wr.heap.size,2,none⟩=some (.string (x0 (q k)).name):=XX.cell 2;have u_3:w7.cell? ⟨wr.heap.size,3,none⟩=some (.int .i64 (x0 (q k)).length):=XX.cell 3;have u_4:w7.cell? ⟨wr.heap.size,4,none⟩=some (.int .i64 (x0 (q k)).group):=XX.cell 4;have u_5:w7.cell? ⟨wr.heap.size,5,none⟩=some (.int .i64 (x0 (q k)).row):=XX.cell 5;have u_6:w7.cell? ⟨wr.heap.size,6,none⟩=some (.slice b6 (x0 (q k)).rows.1 bk6):=XX.cell 6;have u_7:w7.cell? ⟨wr.heap.size,7,none⟩=some (.slice b7 (x0 (q k)).data.1 bk7):=XX.cell 7;have u_8:w7.cell? ⟨wr.heap.size,8,none⟩=some (.slice b8 (x0 (q k)).delta.1 bk8):=XX.cell 8;clear XX
       go_wp2_with (at_builtin;refine zcC rfl (.tmp 49) (.tmp 51) rfl ?_ ?_ hrun ?_;(simp [Act.eval]);(simp [Act.eval]))
       clear hrun;go_wp2
       go_roundw
       case rel=>exact ⟨k+1,al,l++[q k],_,by omega,by go_num,rfl,HCQ.out.more HSrt.out hlt HF.out,HAn.out,by rw [List.length_append];have:=HLk.out;simp;omega,HV8.out,HB8.out⟩
       case measure=>simp [intOf];omega
     ·have hne':l≠[]:=fun h=>hne (by rw [HN.out,h];rfl)
      have haln:al<n:=by rw [HN.out];exact HAl.out.lt hne'
      have VD:=HVOW.out.drew;obtain ⟨gO,cO',hgO⟩:=VD.form0 hne
      have rgO:W.drew.rangeAt gO (al*9) (co al):=by rw [hgO] at VD;exact VD.range haln
      obtain ⟨rfl,rfl⟩:ao=some ⟨gO,0,none⟩∧cap=cO':=by simpa using hgO
      have hcO:(co al).length=9:=VD.lens al haln;have CC0:=zb1 (x0 (l.getD al 0)) (x0 (q k)) (co al) cR hi hi W.drew (VD.each al haln) (zab.rd_below rdW bD (by omega));obtain ⟨cO,hcOe⟩:∃ c,c=co al:=⟨_,rfl⟩;rw [← hcOe] at rgO hcO CC0;obtain ⟨c,hc⟩:∃ c:Int,c=numC (x0 (l.getD al 0)) (x0 (q k)):=⟨_,rfl⟩;rw [← hc] at CC0;have HCN:=hid hc
      have CC:Calls Tryz.prog 105 (#[.agg cO.toArray,.agg cR.toArray]++#[]) W.drew fun e w'=>e=.returned (.int .i64 c)∧Below W.drew.heap.size W.drew w':=by rw [Array.append_empty];exact CC0
      have rgB:W.drew.rangeAt wr.heap.size 0 cR:=fun j v hv=>by
       have:=(XA.cell j).trans (by simpa using hv);rw [Nat.zero_add];exact this
      have d1:decide (0<n)=true:=decide_eq_true (by omega);have d2:decide ((0:Int)<(n:Int))=true:=decide_eq_true (by omega)
      have i3:(0:Int)≤(al:Int):=by omega
      have i4:(al:Int)<(n:Int):=by omega
      clear CC0 hc hcOe VD hgO XA rdW bA;refine zax 9 (fun w'=>w'.rangeAt gO (al*9) cO∧w'.rangeAt wr.heap.size 0 cR) zbC ⟨rgO,rgB⟩ (fun hHeld=>?_);refine zlN 0 rfl ?_
      try simp only [Act.put,SL]
      refine zlN 1 rfl ?_
      try simp only [Act.put,SL]
      refine zlN 2 rfl ?_
      try simp only [Act.put,SL]
      try rw [d1]
      refine zlN 3 rfl ?_
      try simp only [Act.put,SL]
      refine zlN 4 rfl ?_
      try simp only [Act.put,SL]
      refine zlN 5 rfl ?_
      try simp only [Act.put,SL]
      refine zlN 6 rfl ?_
      try simp only [Act.put,SL]
      refine zaf (i:=7) (oi:=_) 16 rfl (by kernel_rfl) (fun _ _ _ h=>h) (yieldsIf_load_mid (by kernel_rfl) 83 (.tmp 35) rfl gO (al*9) (by simp [Act.eval,Act.put]) cO _ (fun w h=>h.1) Tryz.underlying83 rfl (zag hcO)) (by assumption) ?_
      try simp only [Act.put,SL]
      refine zaf (i:=8) (oi:=_) 16 rfl (by kernel_rfl) (fun _ _ _ h=>h) (yieldsIf_load_mid (by kernel_rfl) 83 (.tmp 9) rfl wr.heap.size (0) (by simp [Act.eval,Act.put]) cR _ (fun w h=>h.2) Tryz.underlying83 rfl (zag hcR)) (by assumption) ?_
      try simp only [Act.put,SL]
      refine zar (i:=9) (o:=_) rfl (by kernel_rfl) (by kernel_rfl) (fun KC hKC=>?_);refine zaY (by kernel_rfl) (.func 105) 105 #[] _ _ rfl (by simp [Act.eval,Act.put]) #[.agg cO.toArray,.agg cR.toArray] (by simp [Act.eval,Act.put]) Tryz.func105 (by kernel_rfl) (by kernel_rfl) CC ?_;rintro ee w5 ⟨rfl,b5⟩;refine ⟨_,rfl,?_⟩;refine hKC _ _ ?_;clear hKC KC
      try simp only [Act.put,SL]
      refine zlz 10 (v:=?_) rfl ?_ ?_
      rotate_left
      ·intro w' hSw;go_simp;try with_reducible rfl
      try simp only [Act.put,SL]
      refine zlz 11 (v:=?_) rfl ?_ ?_
      rotate_left
      ·intro w' hSw;go_simp;try with_reducible rfl
      try simp only [Act.put,SL]
      refine zas (by kernel_rfl) ?_ _;have b5':Below W.heap.size W w5:=bD.trans b5;have HVO5:Hid (View zab 83 w5 w2.heap.size hi (.slice (some ⟨gO,0,none⟩) n cap) n (fun i=>x0 (l.getD i 0)) co):=HVOW.out.below b5' (by omega);have z5':W.heap.size≤w5.heap.size:=b5'.size;have HX5:=hid (HXW.out.below b5' HXW.out.lt);have HR5:Hid (zab.rd w5 hi (x0 (q k)) cR):=zab.rd_below HRW.out b5' (by omega);have HB5:=hid (HBW.out.trans (b5'.mono zW))
      have z5:w2.heap.size≤w5.heap.size:=by omega
      clear b5' b5 HVOW HXW HRW HBW CC rgO rgB hHeld bD d1 d2 hcO
      by_cases hc0:c=0
      ·have e0:(c != 0)=false:=by simp [hc0]
       have hst:=HAl.out.stay hne' (r:=q k) (by rw [← HCN.out];exact hc0);have HBf:=hid hst.1;have HAn:=hid hst.2
       have hal5:al≤n:=by omega
       subst hc0;clear hst HCN;have bD6:Below w5.heap.size w5 w5.drew:=⟨rfl,rfl,rfl,Nat.le_refl _,fun _ _=>rfl⟩;have V6:=HVO5.out.drew;obtain ⟨aS,cS,hSl,sS,rS,-⟩:=V6.from_ (show hi≤w5.drew.heap.size by show hi≤w5.heap.size;omega) (al:=al) hal5;have rdR6:zab.rd w5.drew w5.drew.heap.size (x0 (q k)) cR:=zab.rd_mono (zab.rd_below HR5.out bD6 (by omega)) (by show hi≤w5.heap.size;omega);have CH0:=zdX (.slice aS (n-al) cS) (n-al) (fun j=>x0 (l.getD (al+j) 0)) (x0 (q k)) cR w5.drew.heap.size w5.drew rS rdR6 (Nat.le_refl _) (by omega)
       have CH:Calls Tryz.prog 106 (#[.slice aS (n-al) cS,.agg cR.toArray]++#[]) w5.drew (zaT (∃ i,i<n-al∧SameR (x0 (l.getD (al+i) 0)) (x0 (q k))) w5.drew):=by rw [Array.append_empty];exact CH0
       have r6:w5.drew.rangeAt wr.heap.size 0 cR:=fun j v hv=>by
        have:=(HX5.out.cell j).trans (by simpa using hv);rw [Nat.zero_add];exact this
       clear CH0 rdR6 rS sS V6
       go_upto_region 14 with fail
       refine zax 4 (fun w'=>w'.rangeAt wr.heap.size 0 cR) zbC r6 (fun hHeld=>?_);refine zlN 0 rfl ?_
       try simp only [Act.put,SL]
       refine zlN 1 rfl ?_
       try simp only [Act.put,SL]
       refine zlL 2 (v:=?_) rfl ?_ ?_
       rotate_left
       ·intro w' hSw
        try rw [show (Instr.slice 30 (.slice (some ⟨gO,0,none⟩) n cap) (some (.int .i64 (al:Int))) none none).run Tryz.prog w'=_ from hSl w']
        have hSl':=hSl w';go_simp
        try with_reducible rfl
       try simp only [Act.put,SL]
       refine zaf (i:=3) (oi:=_) 16 rfl (by kernel_rfl) (fun _ _ _ h=>h) (yieldsIf_load_mid (by kernel_rfl) 83 (.tmp 9) rfl wr.heap.size (0) (by simp [Act.eval,Act.put]) cR _ (fun w h=>h) Tryz.underlying83 rfl (zag hcR)) (by assumption) ?_
       try simp only [Act.put,SL]
       refine zar (i:=4) (o:=_) rfl (by kernel_rfl) (by kernel_rfl) (fun KC hKC=>?_);refine zaY (by kernel_rfl) (.func 106) 106 #[] _ _ rfl (by simp [Act.eval,Act.put]) #[.slice aS (n-al) cS,.agg cR.toArray] (by simp [Act.eval,Act.put]) Tryz.func106 (by kernel_rfl) (by kernel_rfl) CH ?_;rintro ee w7 ⟨t,rfl,ht,b7⟩;refine ⟨_,rfl,?_⟩;refine hKC _ _ ?_;clear hKC KC
       try simp only [Act.put,SL]
       refine zlz 5 (v:=?_) rfl ?_ ?_
       rotate_left
       ·intro w' hSw;go_simp;try with_reducible rfl
       try simp only [Act.put,SL]
       refine zas (by kernel_rfl) ?_ _;have b7':Below w5.heap.size w5 w7:=bD6.trans b7;have z7:w5.heap.size≤w7.heap.size:=b7'.size;have HVO7:Hid (View zab 83 w7 w2.heap.size hi (.slice (some ⟨gO,0,none⟩) n cap) n (fun i=>x0 (l.getD i 0)) co):=HVO5.out.below b7' (by omega);have HX7:Hid (Box w7 wr.heap.size cR.toArray 83):=HX5.out.below b7' (by omega);have HR7:Hid (zab.rd w7 hi (x0 (q k)) cR):=zab.rd_below HR5.out b7' (by omega);have HB7:=hid (HB5.out.trans (b7'.mono z5))
       have HT:Hid (t=true↔¬ Fst x0 (q k)):=by
        show t=true↔¬ Fst x0 (q k)
        rw [ht,← HCQ.out.has HSrt.out HRe.out hlt HBf.out];rw [HN.out];exact (zb8 (l:=l) (al:=al) (P:=fun o=>SameR (x0 o) (x0 (q k)))).symm
       have hFR:Hid (t=true→al<n):=fun h=>by
        obtain ⟨i,hi',_⟩:=ht.1 h;omega
       clear ht b7 b7' bD6 CH hSl r6 hHeld HVO5 HX5 HR5 HB5
       cases t with
       | true=>
        go_wp2
        go_roundw
        case rel=>exact ⟨k+1,al,l,co,by omega,by go_num,rfl,HCQ.out.skip (HT.out.1 (by simp)),HAl.out,by have:=HLk.out;omega,by rw [← HN.out];exact HVO7.out,HB7.out⟩
        case measure=>simp [intOf];omega
       | false=>
        have hF:Fst x0 (q k):=Classical.byContradiction fun h=>absurd (HT.out.2 h) (by simp);have HF:=hid hF;clear hF hFR HT;have RR:=HR7.out;have XX:=HX7.out;obtain ⟨b6,bk6,b7,bk7,b8,bk8,eR,-⟩:=zaw RR;have HER:=hid eR;rw [eR] at XX;have bA:=bAl w7 (.cells #[.int .i64 (x0 (q k)).kind,.int .i64 (x0 (q k)).seq,.string (x0 (q k)).name,.int .i64 (x0 (q k)).length,.int .i64 (x0 (q k)).group,.int .i64 (x0 (q k)).row,.slice b6 (x0 (q k)).rows.1 bk6,.slice b7 (x0 (q k)).data.1 bk7,.slice b8 (x0 (q k)).delta.1 bk8] 83)
        obtain ⟨v8,w8,hrun,V8,_,b8⟩:=za7 zcu zaM 30 (HVO7.out.below bA (by omega)) 1 (zdV (b:=w7.heap.size) (hi:=hi) (y:=x0 (q k)) (cs:=cR) (fun j hj=>by
         have:=(zao w7 #[.int .i64 (x0 (q k)).kind,.int .i64 (x0 (q k)).seq,.string (x0 (q k)).name,.int .i64 (x0 (q k)).length,.int .i64 (x0 (q k)).group,.int .i64 (x0 (q k)).row,.slice b6 (x0 (q k)).rows.1 bk6,.slice b7 (x0 (q k)).data.1 bk7,.slice b8 (x0 (q k)).delta.1 bk8] 83).cell j;rw [this,eR]
         simp) (zab.rd_below HR7.out bA (by omega))) (by simp;omega) (by omega) (by omega) (fun h=>by cases h)
        have HV8:Hid (View zab 83 w8 w2.heap.size hi v8 (l++[q k]).length (fun i=>x0 ((l++[q k]).getD i 0)) (cat2 co n (fun _=>cR))):=by
         have e:(l++[q k]).length=n+1:=by rw [List.length_append,← HN.out];rfl
         show View zab 83 w8 w2.heap.size hi v8 (l++[q k]).length (fun i=>x0 ((l++[q k]).getD i 0)) (cat2 co n (fun _=>cR))
         rw [e];refine V8.congr (fun i hi'=>?_)
         by_cases c:i<n
         ·rw [zbK _ _ c,zfJ (by rw [← HN.out];exact c)]
         ·obtain rfl:i=n:=by omega
          have e1:=zbS (fun i=>x0 (l.getD i 0)) i (fun _=>x0 (q k)) 0;rw [Nat.add_zero] at e1;rw [e1]
          show x0 (q k)=x0 ((l++[q k]).getD i 0)
          rw [HN.out,zdG]
        have HB8:Hid (Below w2.heap.size w2 w8):=(HB7.out.trans (bA.mono (by omega))).trans b8;clear V8 b8 bA RR eR;have u_0:w7.cell? ⟨wr.heap.size,0,none⟩=some (.int .i64 (x0 (q k)).kind):=XX.cell 0;have u_1:w7.cell? ⟨wr.heap.size,1,none⟩=some (.int .i64 (x0 (q k)).seq):=XX.cell 1;have u_2:w7.cell? ⟨wr.heap.size,2,none⟩=some (.string (x0 (q k)).name):=XX.cell 2;have u_3:w7.cell? ⟨wr.heap.size,3,none⟩=some (.int .i64 (x0 (q k)).length):=XX.cell 3;have u_4:w7.cell? ⟨wr.heap.size,4,none⟩=some (.int .i64 (x0 (q k)).group):=XX.cell 4;have u_5:w7.cell? ⟨wr.heap.size,5,none⟩=some (.int .i64 (x0 (q k)).row):=XX.cell 5;have u_6:w7.cell? ⟨wr.heap.size,6,none⟩=some (.slice b6 (x0 (q k)).rows.1 bk6):=XX.cell 6;have u_7:w7.cell? ⟨wr.heap.size,7,none⟩=some (.slice b7 (x0 (q k)).data.1 bk7):=XX.cell 7;have u_8:w7.cell? ⟨wr.heap.size,8,none⟩=some (.slice b8 (x0 (q k)).delta.1 bk8):=XX.cell 8;clear XX
        go_wp2_with (at_builtin;refine zcC rfl (.tmp 49) (.tmp 51) rfl ?_ ?_ hrun ?_;(simp [Act.eval]);(simp [Act.eval]))
        clear hrun;go_wp2
        go_roundw
        case rel=>exact ⟨k+1,al,l++[q k],_,by omega,by go_num,rfl,HCQ.out.more HSrt.out hlt HF.out,HAn.out,by rw [List.length_append];have:=HLk.out;simp;omega,HV8.out,HB8.out⟩
        case measure=>simp [intOf];omega
      ·have e0:(c != 0)=true:=by simp [hc0]
       have hfr:=HAl.out.fresh HCQ.out HSrt.out hlt hne' (by rw [← HCN.out];exact hc0);have HAf:=hid hfr;have HBf:Hid (∀ e,e∈l.take n→numC (x0 e) (x0 (q k))<0):=fun e he=>hfr e (List.mem_of_mem_take he);have HZ:Hid (n=n):=rfl;have hal5:n≤n:=Nat.le_refl _;clear hfr HCN;have bD6:Below w5.heap.size w5 w5.drew:=⟨rfl,rfl,rfl,Nat.le_refl _,fun _ _=>rfl⟩;have V6:=HVO5.out.drew;obtain ⟨aS,cS,hSl,sS,rS,-⟩:=V6.from_ (show hi≤w5.drew.heap.size by show hi≤w5.heap.size;omega) (al:=n) hal5;have rdR6:zab.rd w5.drew w5.drew.heap.size (x0 (q k)) cR:=zab.rd_mono (zab.rd_below HR5.out bD6 (by omega)) (by show hi≤w5.heap.size;omega);have CH0:=zdX (.slice aS (n-n) cS) (n-n) (fun j=>x0 (l.getD (n+j) 0)) (x0 (q k)) cR w5.drew.heap.size w5.drew rS rdR6 (Nat.le_refl _) (by omega)
       have CH:Calls Tryz.prog 106 (#[.slice aS (n-n) cS,.agg cR.toArray]++#[]) w5.drew (zaT (∃ i,i<n-n∧SameR (x0 (l.getD (n+i) 0)) (x0 (q k))) w5.drew):=by rw [Array.append_empty];exact CH0
       have r6:w5.drew.rangeAt wr.heap.size 0 cR:=fun j v hv=>by
        have:=(HX5.out.cell j).trans (by simpa using hv);rw [Nat.zero_add];exact this
       clear CH0 rdR6 rS sS V6
       go_upto_region 14 with fail
       refine zax 4 (fun w'=>w'.rangeAt wr.heap.size 0 cR) zbC r6 (fun hHeld=>?_);refine zlN 0 rfl ?_
       try simp only [Act.put,SL]
       refine zlN 1 rfl ?_
       try simp only [Act.put,SL]
       refine zlL 2 (v:=?_) rfl ?_ ?_
       rotate_left
       ·intro w' hSw
        try rw [show (Instr.slice 30 (.slice (some ⟨gO,0,none⟩) n cap) (some (.int .i64 (n:Int))) none none).run Tryz.prog w'=_ from hSl w']
        have hSl':=hSl w';go_simp
        try with_reducible rfl
       try simp only [Act.put,SL]
       refine zaf (i:=3) (oi:=_) 16 rfl (by kernel_rfl) (fun _ _ _ h=>h) (yieldsIf_load_mid (by kernel_rfl) 83 (.tmp 9) rfl wr.heap.size (0) (by simp [Act.eval,Act.put]) cR _ (fun w h=>h) Tryz.underlying83 rfl (zag hcR)) (by assumption) ?_
       try simp only [Act.put,SL]
       refine zar (i:=4) (o:=_) rfl (by kernel_rfl) (by kernel_rfl) (fun KC hKC=>?_);refine zaY (by kernel_rfl) (.func 106) 106 #[] _ _ rfl (by simp [Act.eval,Act.put]) #[.slice aS (n-n) cS,.agg cR.toArray] (by simp [Act.eval,Act.put]) Tryz.func106 (by kernel_rfl) (by kernel_rfl) CH ?_;rintro ee w7 ⟨t,rfl,ht,b7⟩;refine ⟨_,rfl,?_⟩;refine hKC _ _ ?_;clear hKC KC
       try simp only [Act.put,SL]
       refine zlz 5 (v:=?_) rfl ?_ ?_
       rotate_left
       ·intro w' hSw;go_simp;try with_reducible rfl
       try simp only [Act.put,SL]
       refine zas (by kernel_rfl) ?_ _;have b7':Below w5.heap.size w5 w7:=bD6.trans b7;have z7:w5.heap.size≤w7.heap.size:=b7'.size;have HVO7:Hid (View zab 83 w7 w2.heap.size hi (.slice (some ⟨gO,0,none⟩) n cap) n (fun i=>x0 (l.getD i 0)) co):=HVO5.out.below b7' (by omega);have HX7:Hid (Box w7 wr.heap.size cR.toArray 83):=HX5.out.below b7' (by omega);have HR7:Hid (zab.rd w7 hi (x0 (q k)) cR):=zab.rd_below HR5.out b7' (by omega);have HB7:=hid (HB5.out.trans (b7'.mono z5))
       have HT:Hid (t=true↔¬ Fst x0 (q k)):=by
        show t=true↔¬ Fst x0 (q k)
        rw [ht,← HCQ.out.has HSrt.out HRe.out hlt HBf.out];rw [HN.out];exact (zb8 (l:=l) (al:=l.length) (P:=fun o=>SameR (x0 o) (x0 (q k)))).symm
       have hFR:Hid (t=true→n<n):=fun h=>by
        obtain ⟨i,hi',_⟩:=ht.1 h;omega
       clear ht b7 b7' bD6 CH hSl r6 hHeld HVO5 HX5 HR5 HB5
       cases t with
       | true=>
        exfalso
        have:=hFR.out (by simp);have:=HZ.out;omega
       | false=>
        have hF:Fst x0 (q k):=Classical.byContradiction fun h=>absurd (HT.out.2 h) (by simp);have HF:=hid hF;clear hF hFR HT;have RR:=HR7.out;have XX:=HX7.out;obtain ⟨b6,bk6,b7,bk7,b8,bk8,eR,-⟩:=zaw RR;have HER:=hid eR;rw [eR] at XX;have bA:=bAl w7 (.cells #[.int .i64 (x0 (q k)).kind,.int .i64 (x0 (q k)).seq,.string (x0 (q k)).name,.int .i64 (x0 (q k)).length,.int .i64 (x0 (q k)).group,.int .i64 (x0 (q k)).row,.slice b6 (x0 (q k)).rows.1 bk6,.slice b7 (x0 (q k)).data.1 bk7,.slice b8 (x0 (q k)).delta.1 bk8] 83)
        obtain ⟨v8,w8,hrun,V8,_,b8⟩:=za7 zcu zaM 30 (HVO7.out.below bA (by omega)) 1 (zdV (b:=w7.heap.size) (hi:=hi) (y:=x0 (q k)) (cs:=cR) (fun j hj=>by
         have:=(zao w7 #[.int .i64 (x0 (q k)).kind,.int .i64 (x0 (q k)).seq,.string (x0 (q k)).name,.int .i64 (x0 (q k)).length,.int .i64 (x0 (q k)).group,.int .i64 (x0 (q k)).row,.slice b6 (x0 (q k)).rows.1 bk6,.slice b7 (x0 (q k)).data.1 bk7,.slice b8 (x0 (q k)).delta.1 bk8] 83).cell j;rw [this,eR]
         simp) (zab.rd_below HR7.out bA (by omega))) (by simp;omega) (by omega) (by omega) (fun h=>by cases h)
        have HV8:Hid (View zab 83 w8 w2.heap.size hi v8 (l++[q k]).length (fun i=>x0 ((l++[q k]).getD i 0)) (cat2 co n (fun _=>cR))):=by
         have e:(l++[q k]).length=n+1:=by rw [List.length_append,← HN.out];rfl
         show View zab 83 w8 w2.heap.size hi v8 (l++[q k]).length (fun i=>x0 ((l++[q k]).getD i 0)) (cat2 co n (fun _=>cR))
         rw [e];refine V8.congr (fun i hi'=>?_)
         by_cases c:i<n
         ·rw [zbK _ _ c,zfJ (by rw [← HN.out];exact c)]
         ·obtain rfl:i=n:=by omega
          have e1:=zbS (fun i=>x0 (l.getD i 0)) i (fun _=>x0 (q k)) 0;rw [Nat.add_zero] at e1;rw [e1]
          show x0 (q k)=x0 ((l++[q k]).getD i 0)
          rw [HN.out,zdG]
        have HB8:Hid (Below w2.heap.size w2 w8):=(HB7.out.trans (bA.mono (by omega))).trans b8;clear V8 b8 bA RR eR;have u_0:w7.cell? ⟨wr.heap.size,0,none⟩=some (.int .i64 (x0 (q k)).kind):=XX.cell 0;have u_1:w7.cell? ⟨wr.heap.size,1,none⟩=some (.int .i64 (x0 (q k)).seq):=XX.cell 1;have u_2:w7.cell? ⟨wr.heap.size,2,none⟩=some (.string (x0 (q k)).name):=XX.cell 2;have u_3:w7.cell? ⟨wr.heap.size,3,none⟩=some (.int .i64 (x0 (q k)).length):=XX.cell 3;have u_4:w7.cell? ⟨wr.heap.size,4,none⟩=some (.int .i64 (x0 (q k)).group):=XX.cell 4;have u_5:w7.cell? ⟨wr.heap.size,5,none⟩=some (.int .i64 (x0 (q k)).row):=XX.cell 5;have u_6:w7.cell? ⟨wr.heap.size,6,none⟩=some (.slice b6 (x0 (q k)).rows.1 bk6):=XX.cell 6;have u_7:w7.cell? ⟨wr.heap.size,7,none⟩=some (.slice b7 (x0 (q k)).data.1 bk7):=XX.cell 7;have u_8:w7.cell? ⟨wr.heap.size,8,none⟩=some (.slice b8 (x0 (q k)).delta.1 bk8):=XX.cell 8;clear XX
        go_wp2_with (at_builtin;refine zcC rfl (.tmp 49) (.tmp 51) rfl ?_ ?_ hrun ?_;(simp [Act.eval]);(simp [Act.eval]))
        clear hrun;go_wp2
        go_roundw
        case rel=>exact ⟨k+1,l.length,l++[q k],_,by omega,by go_num,by rw [← HN.out],HCQ.out.more HSrt.out hlt HF.out,Alk.open_ (x0:=x0) HAf.out,by rw [List.length_append];have:=HLk.out;simp;omega,HV8.out,HB8.out⟩
        case measure=>simp [intOf];omega
    ·obtain rfl:k=N:=by omega
     clear hlt;go_wp2;go_ret;obtain ⟨e1,e2⟩:=HNE.out;exact ⟨_,l,co,w2.heap.size,rfl,by rw [← e1,← e2];exact HCQ.out.all HRe.out,z2,by rw [← e2,← HN.out];exact HVO.out,HB2.out.trans (HBR.out.mono z2)⟩
structure RecsResultD where
 code:Int
 recs:Nat×(Nat→RecD)
def zaz:Lay RecsResultD:=(layI.two (zab.slice 83)).as fun d=>(d.code,d.recs)
theorem zb9 {w:World} {hi:Nat} {d:RecsResultD} {cs:List Value} (h:zaz.rd w hi d cs):∃ ao1 cap1,cs=[.int .i64 d.code,.slice ao1 d.recs.1 cap1]∧(zab.slice 83).rd w hi d.recs [.slice ao1 d.recs.1 cap1]∧(-9223372036854775808≤d.code∧d.code≤9223372036854775807):=by
 obtain ⟨c0,r0,rfl,h0,h1⟩:=h;obtain ⟨rfl,k0⟩:=h0;obtain ⟨ao1,cap1,rfl⟩:=zbP h1;exact ⟨ao1,cap1,rfl,h1,k0⟩
theorem zdn {w:World} {d:RecsResultD} {cs:List Value} {L:List Nat} (h:zaz.own w d cs L):∃ ao1 cap1 K1,cs=[.int .i64 d.code,.slice ao1 d.recs.1 cap1]∧L=K1∧(zab.slice 83).own w d.recs [.slice ao1 d.recs.1 cap1] K1∧(-9223372036854775808≤d.code∧d.code≤9223372036854775807):=by
 obtain ⟨c0,r0,L0,M0,rfl,rfl,h0,h1⟩:=h;obtain ⟨rfl,k0,rfl⟩:=h0;obtain ⟨ao1,cap1,rfl⟩:=zbH h1;exact ⟨ao1,cap1,_,rfl,rfl,h1,k0⟩
theorem zdY {w:World} {d:RecsResultD} {cs:List Value} {L:List Nat} (h:zaz.own w d cs L):∃ ao1 cap1,cs=[.int .i64 d.code,.slice ao1 d.recs.1 cap1]:=by
 obtain ⟨ao1,cap1,K1,rfl,-⟩:=zdn h;exact ⟨ao1,cap1,rfl⟩
theorem zeh {w:World} {lo hi:Nat} {d:RecsResultD} {cs:List Value} (h:OwnT zaz w lo hi d cs):∃ ao1 cap1,cs=[.int .i64 d.code,.slice ao1 d.recs.1 cap1]:=by
 obtain ⟨L,h1,-⟩:=h;exact zdY h1
theorem zdJ {w:World} (d:RecsResultD) {ao1:Option Addr} {cap1:Nat} {K1:List Nat} (h1:(zab.slice 83).own w d.recs [.slice ao1 d.recs.1 cap1] K1) (k0:(-9223372036854775808≤d.code∧d.code≤9223372036854775807)):zaz.own w d [.int .i64 d.code,.slice ao1 d.recs.1 cap1] (K1):=⟨_,_,[],K1,rfl,rfl,⟨rfl,k0,rfl⟩,h1⟩
def zbf (d:RecsResultD):Nat:=(cSl zaO) d.recs
def zbW (j:Nat) (d:RecsResultD):RecsResultD:=⟨d.code,(mkSl zaO zbg) (j) d.recs⟩
structure BytesResultD where
 code:Int
 bytes:Nat×(Nat→Nat)
structure IntsResultD where
 code:Int
 list:Nat×(Nat→Int)
structure GroupsResultD where
 code:Int
 groups:Nat×(Nat→Int)
theorem zdK {f g:Nat→Nat}:∀ {n:Nat},(∀ i,i<n→f i=g i)→sumN f n=sumN g n
 | 0,_=>rfl
 | n+1,h=>by rw [zaL,zaL,zdK (fun i hi=>h i (by omega)),h n (by omega)]
theorem zif (f g:Nat→Nat) (n:Nat):∀ m,sumN (fun i=>if i<n then f i else g (i-n)) (n+m)=sumN f n+sumN g m
 | 0=>by rw [Nat.add_zero];exact zdK (fun i hi=>if_pos hi)
 | m+1=>by
  rw [← Nat.add_assoc,zaL,zif f g n m,zaL,if_neg (by omega),show n+m-n=m by omega];omega
theorem zig (f:Nat→Nat) (l:List Nat):sumN (fun i=>f (l.getD i 0)) l.length=(l.map f).sum:=by
 generalize hn:l.length=n
 induction n generalizing l with
 | zero=>obtain rfl:l=[]:=List.eq_nil_of_length_eq_zero hn;rfl
 | succ n ih=>
  have hne:l≠[]:=fun h=>by rw [h] at hn;simp at hn
  have e:=List.dropLast_concat_getLast hne
  have hl:l.dropLast.length=n:=by rw [List.length_dropLast];omega
  have h1:=ih l.dropLast hl;rw [zaL]
  conv=>rhs;rw [← e]
  rw [List.map_append,List.sum_append,← h1]
  congr 1
  ·exact zdK (fun i hi=>by
    have:l.getD i 0=l.dropLast.getD i 0:=by
     conv=>lhs;rw [← e]
     exact zfJ (by rw [hl];exact hi)
    rw [this])
  ·have:l.getD n 0=l.getLast hne:=by
    conv=>lhs;rw [← e]
    rw [← hl];exact zdG
   rw [this]
   simp
theorem zfN (f:Nat→Nat):∀ (N:Nat) (l:List Nat),l.Nodup→(∀ i,i∈l→i<N)→(l.map f).sum≤sumN f N∧l.length≤N
 | 0,l,_,h=>by
  cases l with
  | nil=>exact ⟨Nat.le_refl _,Nat.le_refl _⟩
  | cons a t=>exact absurd (h a (by simp)) (by omega)
 | N+1,l,nd,h=>by
  by_cases c:N∈l
  ·have p:=List.perm_cons_erase c
   obtain ⟨h1,h2⟩:=zfN f N (l.erase N) (nd.erase N) (fun i hi=>by
    have h3:=(nd.mem_erase_iff).1 hi;have:=h i h3.2
    omega)
   have e1:=(p.map f).sum_nat;have e2:=p.length_eq
   simp only [List.map_cons,List.sum_cons,List.length_cons] at e1 e2
   rw [zaL];omega
  ·obtain ⟨h1,h2⟩:=zfN f N l nd (fun i hi=>by
    have:=h i hi
    by_cases c2:i=N
    ·subst c2;exact absurd hi c
    ·omega)
   rw [zaL];omega
theorem Cnt.nodup {x0:Nat→RecD} {N:Nat} {l:List Nat} (h:Cnt x0 N l):l.Nodup:=h.srt.imp (fun {a b} hab e=>by subst e;exact (zbo x0).irr _ hab)
theorem Cnt.sum {x0:Nat→RecD} {N:Nat} {l:List Nat} (h:Cnt x0 N l) (f:RecD→Nat):sumN (fun i=>f (x0 (l.getD i 0))) l.length≤sumN (fun i=>f (x0 i)) N∧l.length≤N:=by
 have:=zfN (fun i=>f (x0 i)) N l h.nodup (fun i hi=>((h.mem i).1 hi).1);rw [← zig (fun i=>f (x0 i))] at this;exact this
theorem zgK (x0:Nat→RecD) (M:Nat) (l:List Nat):∀ k,k≤l.length→(∀ j,k≤j→j<l.length→numC (x0 M) (x0 (l.getD j 0))<0)→∃ a,a≤l.length∧(∀ j,a≤j→j<l.length→numC (x0 M) (x0 (l.getD j 0))<0)∧(a=0∨¬ numC (x0 M) (x0 (l.getD (a-1) 0))<0)
 | 0,h,hb=>⟨0,h,hb,.inl rfl⟩
 | k+1,h,hb=>by
  by_cases c:numC (x0 M) (x0 (l.getD k 0))<0
  ·exact zgK x0 M l k (by omega) (fun j h1 h2=>by
    by_cases e:j=k
    ·subst e;exact c
    ·exact hb j (by omega) h2)
  ·exact ⟨k+1,h,hb,.inr c⟩
theorem zk4 (x0:Nat→RecD):∀ N,∃ l,Cnt x0 N l
 | 0=>⟨[],Cnt.nil x0⟩
 | N+1=>by
  obtain ⟨l,h⟩:=zk4 x0 N
  by_cases c:Fst x0 N
  ·obtain ⟨a,h1,h2,h3⟩:=zgK x0 N l l.length (Nat.le_refl _) (fun j h1 h2=>by omega)
   exact ⟨_,h.ins c a h1 h2 h3⟩
  ·exact ⟨l,h.skip c⟩
theorem zkG (f:RecD→Nat) (tp:Nat→TapeD):sumN (fun i=>f (recT tp 2 i)) (lenT tp 2)=sumN (fun i=>f ((tp 0).recs.2 i)) (tp 0).recs.1+sumN (fun i=>f ((tp 1).recs.2 i)) (tp 1).recs.1:=by
 have e1:lenT tp 1=(tp 0).recs.1:=by simp [lenT]
 have e2:lenT tp 2=(tp 0).recs.1+(tp 1).recs.1:=by simp [lenT]
 rw [e2,← zif];refine zdK (fun i hi=>?_)
 show f (cat2 (recT tp 1) (lenT tp 1) (tp 1).recs.2 i)=_
 rw [e1];unfold cat2
 by_cases c:i<(tp 0).recs.1
 ·rw [if_pos c,if_pos c]
  show f (cat2 (recT tp 0) (lenT tp 0) (tp 0).recs.2 i)=_
  have:=zbS (recT tp 0) (lenT tp 0) (tp 0).recs.2 i;rw [show lenT tp 0+i=i from Nat.zero_add i] at this;rw [this]
 ·rw [if_neg c,if_neg c]
def rec0:RecD:=⟨0,0,ByteArray.empty,0,0,0,(0,fun _=>0),(0,fun _=>0),(0,fun _=>0)⟩
theorem zkH {d:WorldD} (h2:d.tapes.1=2) (hsz:zbn d≤1048576) {l:List Nat} (h:Cnt (recT d.tapes.2 2) (lenT d.tapes.2 2) l):(szSl zaH) (l.length,fun i=>recT d.tapes.2 2 (l.getD i 0))≤1048576:=by
 obtain ⟨s1,s2⟩:=h.sum zaH;rw [zkG] at s1
 have e2:lenT d.tapes.2 2=(d.tapes.2 0).recs.1+(d.tapes.2 1).recs.1:=by simp [lenT]
 have e3:(szSl zaS) d.tapes=2+(zaS (d.tapes.2 0)+zaS (d.tapes.2 1)):=by
  unfold szSl;rw [h2]
  simp [sumN]
 have e4:zaS (d.tapes.2 0)=(d.tapes.2 0).recs.1+sumN (fun i=>zaH ((d.tapes.2 0).recs.2 i)) (d.tapes.2 0).recs.1:=rfl;have e5:zaS (d.tapes.2 1)=(d.tapes.2 1).recs.1+sumN (fun i=>zaH ((d.tapes.2 1).recs.2 i)) (d.tapes.2 1).recs.1:=rfl;have e6:zbn d=(szSl (szSl zaA)) d.groups+lenD d.on+(szSl zaS) d.tapes:=rfl
 show l.length+sumN (fun i=>zaH (recT d.tapes.2 2 (l.getD i 0))) l.length≤1048576
 omega
theorem zkI (p:Nat×(Nat→RecD)):(cSl zaO) p≤6*(szSl zaH) p:=by
 have:∀ n,sumN (fun i=>zaO (p.2 i)) n≤6*(n+sumN (fun i=>zaH (p.2 i)) n):=fun n=>by
  induction n with
  | zero=>exact Nat.zero_le _
  | succ n ih=>
   rw [zaL,zaL];have h1:zaO (p.2 n)=6+lenD (p.2 n).rows+lenD (p.2 n).data+lenD (p.2 n).delta:=rfl;have h2:zaH (p.2 n)=(p.2 n).name.size+lenD (p.2 n).rows+lenD (p.2 n).data+lenD (p.2 n).delta:=rfl;omega
 exact this p.1
def zjZ (P:RecsResultD→Prop) (w:World) (e:Ending) (w':World):Prop:=∃ q cs,e=.returned (.agg cs.toArray)∧P q∧OwnT zaz w' w.heap.size w'.heap.size q cs∧Below w.heap.size w w'
theorem zcn:(Tryz.prog.info? 32).map (·.size)=some 2:=by kernel_rfl
theorem zfO {w:World} {lo hi n cap:Nat} {ao:Option Addr} {f:Nat→RecD} (h:OwnT (zab.slice 83) w lo hi (n,f) [.slice ao n cap]) (c:Int) (hc:-9223372036854775808≤c∧c≤9223372036854775807):OwnT zaz w lo hi ⟨c,(n,f)⟩ [.int .i64 c,.slice ao n cap]:=by
 obtain ⟨L,h1,h2,h3⟩:=h;exact ⟨L,zdJ ⟨c,(n,f)⟩ h1 hc,h2,h3⟩
theorem zdL (w:World) (c:Int) (hc:-9223372036854775808≤c∧c≤9223372036854775807) (lo hi:Nat):OwnT zaz w lo hi ⟨c,(0,fun _=>rec0)⟩ [.int .i64 c,.slice none 0 0]:=zfO (OwnT.nil (zky w _) lo hi) c hc
theorem zgL {w:World} {lo hi:Nat} {p:Nat×(Nat→RecD)} {v:Value} (h:OwnT (zab.slice 83) w lo hi p [v]):∃ ao cap,v=.slice ao p.1 cap:=by
 obtain ⟨L,h1,_⟩:=h;obtain ⟨v',_,_,e,_,h3,_⟩:=h1
 obtain rfl:v=v':=by simpa using e
 rcases h3.2 with ⟨hv,hn⟩ | ⟨g,cap,cur,rfl,_⟩
 ·exact ⟨none,0,by rw [hv,hn]⟩
 ·exact ⟨_,_,rfl⟩
set_option maxRecDepth 100000 in
theorem zhE (v:Value) (m:Nat) (y:Nat→RecD) (r:RecD) (cr:List Value) (hi:Nat) (w:World) (h:(zab.slice 83).rd w hi (m,y) [v]) (hr:zab.rd w hi r cr) (hhi:hi≤w.heap.size) (hm:m≤1048576) :
 Calls Tryz.prog 49 #[v,.agg cr.toArray] w (zaT (∃ i,i<m∧SameR (y i) r) w):=by
 obtain ⟨ao,cap,e,hmm,hc⟩:=h
 obtain rfl:v=.slice ao m cap:=by simpa using e
 have B0:=zaE w cr.toArray 83;have HR:=hid hr;have HC:=hid hc;have HR0:=hr;obtain ⟨b6,bk6,b7,bk7,b8,bk8,rfl,-⟩:=zaw HR0;clear e hmm hc HR0
 go_enter Tryz.func49,Tryz.ntmps49
 go_wp2
 go_loopw [5] (fun z wr=>∃ k:Nat,k≤m∧z=.int .i64 k∧(∀ t,t<k→¬ SameR (y t) r)∧One w wr (rwR r b6 bk6 b7 bk7 b8 bk8).toArray 83) (fun z _=>m-(intOf z).toNat)
 case atStart=>exact ⟨0,Nat.zero_le _,rfl,fun t ht=>by omega,B0⟩
 case round=>
  obtain ⟨k,hk,rfl,hall,hO⟩:=hrel;obtain ⟨wx,rfl⟩:∃ y,y=wr:=⟨_,rfl⟩;have HALL:=hid hall;have HO:=hid hO;have hbl:=hO.bel;have zx:=hbl.size;have XB:Box wx w.heap.size (rwR r b6 bk6 b7 bk7 b8 bk8).toArray 83:=hO.b1;clear hall B0 hO
  by_cases hlt:k<m
  ·obtain ⟨b,off,rfl,hbh,hel⟩:=HC.out (by omega)
   obtain ⟨ce,hy,hcell⟩:=zau (t:=83) hel hbl hhi hbh hlt;have bD:Below wx.heap.size wx wx.drew:=⟨rfl,rfl,rfl,Nat.le_refl _,fun _ _=>rfl⟩;have CS:=zgI (y k) r ce (rwR r b6 bk6 b7 bk7 b8 bk8) hi hi wx.drew (zab.rd_below hy bD (by omega)) (zab.rd_below (zab.rd_below HR.out hbl hhi) bD (by omega)) (by show hi≤wx.heap.size;omega) (by show hi≤wx.heap.size;omega)
   have r1:wx.drew.rangeAt b (off+k*9) ce:=fun j v hv=>by
    have hj:j<9:=by have:=zab.rd_len hy;have e:j<ce.length:=(List.getElem?_eq_some_iff.1 hv).1;rw [this] at e;exact e
    have:=hcell j hj;rw [← Nat.add_assoc] at this;exact this.trans hv
   have r2:wx.drew.rangeAt w.heap.size 0 (rwR r b6 bk6 b7 bk7 b8 bk8):=fun j v hv=>by
    have:=(XB.cell j).trans (by simpa using hv);rw [Nat.zero_add];exact this
   have hce:ce.length=9:=zab.rd_len hy
   have CC:Calls Tryz.prog 92 (#[.agg ce.toArray,.agg (rwR r b6 bk6 b7 bk7 b8 bk8).toArray]++#[]) wx.drew (zaT (SameR (y k) r) wx.drew):=by rw [Array.append_empty];exact CS
   have HBX:=hid XB;obtain ⟨cq,hcq⟩:∃ c:List Value,c=(rwR r b6 bk6 b7 bk7 b8 bk8):=⟨_,rfl⟩
   have hcl:cq.length=9:=by rw [hcq];rfl
   rw [← hcq] at r2 CC;clear hcq
   have i1:(0:Int)≤(k:Int):=by omega
   have i2:(k:Int)<(m:Int):=by omega
   clear hcell hel XB hy CS HC HR
   go_upto_region 4 with fail
   refine zax 5 (fun w'=>w'.rangeAt b (off+k*9) ce∧w'.rangeAt w.heap.size 0 cq) zbC ⟨r1,r2⟩ (fun hHeld=>?_);refine zlN 0 rfl ?_
   try simp only [Act.put,SL]
   refine zlN 1 rfl ?_
   try simp only [Act.put,SL]
   refine zlN 2 rfl ?_
   try simp only [Act.put,SL]
   refine zaf (i:=3) (oi:=_) 16 rfl (by kernel_rfl) (fun _ _ _ h=>h) (yieldsIf_load_mid (by kernel_rfl) 83 (.tmp 14) rfl b (off+k*9) (by simp [Act.eval,Act.put]) ce _ (fun w h=>h.1) Tryz.underlying83 rfl (zag hce)) (by assumption) ?_
   try simp only [Act.put,SL]
   refine zaf (i:=4) (oi:=_) 16 rfl (by kernel_rfl) (fun _ _ _ h=>h) (yieldsIf_load_mid (by kernel_rfl) 83 (.tmp 3) rfl w.heap.size (0) (by simp [Act.eval,Act.put]) cq _ (fun w h=>h.2) Tryz.underlying83 rfl (zag hcl)) (by assumption) ?_
   try simp only [Act.put,SL]
   refine zar (i:=5) (o:=_) rfl (by kernel_rfl) (by kernel_rfl) (fun KC hKC=>?_);refine zaY (by kernel_rfl) (.func 92) 92 #[] _ _ rfl (by simp [Act.eval,Act.put]) #[.agg ce.toArray,.agg cq.toArray] (by simp [Act.eval,Act.put]) Tryz.func92 (by kernel_rfl) (by kernel_rfl) CC ?_;rintro ee w5 ⟨t,rfl,ht,b5⟩;refine ⟨_,rfl,?_⟩;refine hKC _ _ ?_;clear hKC KC
   try simp only [Act.put,SL]
   refine zas (by kernel_rfl) ?_ _;have b5':Below wx.heap.size wx w5:=bD.trans b5;have HO5:Hid (One w w5 (rwR r b6 bk6 b7 bk7 b8 bk8).toArray 83):=⟨HBX.out.below b5' HBX.out.lt,hbl.trans (b5'.mono zx)⟩;have HT:=hid ht;clear b5 b5' ht bD r1 r2 CC HBX hHeld hbl HO
   cases t with
   | true=>
    go_wp2;go_ret;exact zaC rfl ⟨k,hlt,HT.out.1 (by simp)⟩ HO5.out.bel
   | false=>
    go_wp2
    go_roundw
    case rel=>exact ⟨k+1,by omega,by go_num,fun t ht=>by
     by_cases c:t=k
     ·rw [c];intro hs;exact absurd (HT.out.2 hs) (by simp)
     ·exact HALL.out t (by omega),HO5.out⟩
    case measure=>simp [intOf];omega
  ·obtain rfl:k=m:=by omega
   clear hbl XB;go_wp2;go_ret;exact zak rfl (fun ⟨i,h1,h2⟩=>HALL.out i h1 h2) HO.out.bel
set_option maxRecDepth 100000 in
theorem zhF (a r:RecD) (ca cr:List Value) (hi hj:Nat) (w:World) (ha:zab.rd w hi a ca) (hr:zab.rd w hj r cr) :
 Calls Tryz.prog 50 #[.agg ca.toArray,.agg cr.toArray] w fun e w'=>e=.returned (.bool (decide (numC a r<0)))∧Below w.heap.size w w':=by
 obtain ⟨a6,ak6,a7,ak7,a8,ak8,rfl,-⟩:=zaw ha;obtain ⟨b6,bk6,b7,bk7,b8,bk8,rfl,-⟩:=zaw hr;have T0:=zaD w (rwR a a6 ak6 a7 ak7 a8 ak8).toArray (rwR r b6 bk6 b7 bk7 b8 bk8).toArray 83 83;have HB0:=hid T0.bel;have x0:((w.alloc (.cells (rwR a a6 ak6 a7 ak7 a8 ak8).toArray 83)).alloc (.cells (rwR r b6 bk6 b7 bk7 b8 bk8).toArray 83)).cell? ⟨w.heap.size,0,none⟩=some (.int .i64 a.kind):=T0.b1.cell 0;have x1:((w.alloc (.cells (rwR a a6 ak6 a7 ak7 a8 ak8).toArray 83)).alloc (.cells (rwR r b6 bk6 b7 bk7 b8 bk8).toArray 83)).cell? ⟨w.heap.size,1,none⟩=some (.int .i64 a.seq):=T0.b1.cell 1;have x4:((w.alloc (.cells (rwR a a6 ak6 a7 ak7 a8 ak8).toArray 83)).alloc (.cells (rwR r b6 bk6 b7 bk7 b8 bk8).toArray 83)).cell? ⟨w.heap.size,4,none⟩=some (.int .i64 a.group):=T0.b1.cell 4;have y0:((w.alloc (.cells (rwR a a6 ak6 a7 ak7 a8 ak8).toArray 83)).alloc (.cells (rwR r b6 bk6 b7 bk7 b8 bk8).toArray 83)).cell? ⟨w.heap.size+1,0,none⟩=some (.int .i64 r.kind):=T0.b2.cell 0;have y1:((w.alloc (.cells (rwR a a6 ak6 a7 ak7 a8 ak8).toArray 83)).alloc (.cells (rwR r b6 bk6 b7 bk7 b8 bk8).toArray 83)).cell? ⟨w.heap.size+1,1,none⟩=some (.int .i64 r.seq):=T0.b2.cell 1
 have y4:((w.alloc (.cells (rwR a a6 ak6 a7 ak7 a8 ak8).toArray 83)).alloc (.cells (rwR r b6 bk6 b7 bk7 b8 bk8).toArray 83)).cell? ⟨w.heap.size+1,4,none⟩=some (.int .i64 r.group):=T0.b2.cell 4;clear T0 ha hr;have hN:=@zc4 a r
 by_cases c1:a.seq=r.seq
 case neg=>
  have e1:(a.seq != r.seq)=true:=by simpa using c1
  have e9:decide (numC a r<0)=decide (a.seq<r.seq):=decide_eq_decide.2 (by rw [hN];omega);rw [e9];clear hN e9
  go_enter Tryz.func50,Tryz.ntmps50
  go_wp2;go_ret;exact ⟨rfl,HB0.out⟩
 have e1:(a.seq != r.seq)=false:=by simpa using c1
 by_cases c2:a.kind=r.kind
 case neg=>
  have e2:(a.kind != r.kind)=true:=by simpa using c2
  have e9:decide (numC a r<0)=decide (a.kind<r.kind):=decide_eq_decide.2 (by rw [hN];omega);rw [e9];clear hN e9 c1
  go_enter Tryz.func50,Tryz.ntmps50
  go_wp2;go_ret;exact ⟨rfl,HB0.out⟩
 have e2:(a.kind != r.kind)=false:=by simpa using c2
 have e9:decide (numC a r<0)=decide (a.group<r.group):=decide_eq_decide.2 (by rw [hN];omega);rw [e9];clear hN e9 c1 c2
 go_enter Tryz.func50,Tryz.ntmps50
 go_wp2;go_ret;exact ⟨rfl,HB0.out⟩
theorem zaJ {w w':World} {B b o:Nat} {cs:List Value} (h:w.rangeAt b o cs) (hb:Below B w w') (hB:b<B):w'.rangeAt b o cs:=fun j v hv=>(hb.cell (p:=⟨b,o+j,none⟩) hB).trans (h j v hv)
theorem Src.below {w w':World} {B hi:Nat} {ao:Option Addr} {m:Nat} {y:Nat→RecD} {cy:Nat→List Value} (h:Src zab w hi ao m y cy) (hb:Below B w w') (hB:∀ b off,ao=some ⟨b,off,none⟩→b<B) (hh:hi≤B):Src zab w' hi ao m y cy:=
 ⟨fun h0=>by
  obtain ⟨b,off,e,hc⟩:=h.1 h0
  exact ⟨b,off,e,fun j hj k hk=>(hb.cell (p:=⟨b,off+(j*zab.sz+k),none⟩) (hB b off e)).trans (hc j hj k hk)⟩,fun j hj=>zab.rd_below (h.2 j hj) hb hh⟩
theorem zk5 {D U:World} {lo hi m:Nat} {ao:Option Addr} {c:Nat} {y:Nat→RecD} {cy:Nat→List Value} {v0:Value} {x':Nat→RecD} {ce:Nat→List Value} (hS:Src zab D hi ao m y cy) (hz:ao=none→c=0∨m=0) (hA:∀ b off,ao=some ⟨b,off,none⟩→b<D.heap.size) (hb:Below D.heap.size D U) (hh:hi≤D.heap.size) (hm:m≤1000000)
 (V:View zab 83 U D.heap.size hi v0 0 x' ce):∃ v' w' ce',(Builtin.append_ #[30,30] 30 #[v0,.slice ao m c]).run Tryz.prog U=.ok v' w'∧View zab 83 w' D.heap.size hi v' m y ce'∧Below D.heap.size U w':=by
 obtain ⟨v',w',hrun,V',_,b'⟩:=za7 zcu zaM 30 V c (hS.below hb hA hh) hb.size hh (by omega) hz;refine ⟨v',w',cat2 ce 0 cy,hrun,?_,b'⟩;rw [Nat.zero_add] at V';exact V'.congr (fun i hi=>by unfold cat2;rw [if_neg (by omega)];rfl)
theorem View.weakL {w:World} {lo lo' hi n:Nat} {v:Value} {x:Nat→RecD} {ce:Nat→List Value} (h:View zab 83 w lo hi v n x ce) (hl:lo'≤lo):View zab 83 w lo' hi v n x ce:=⟨⟨h.row.1,by
 rcases h.row.2 with hn | ⟨g,cap,cur,rfl,hbg,rest⟩
 ·exact .inl hn
 ·exact .inr ⟨g,cap,cur,rfl,Nat.le_trans hl hbg,rest⟩⟩,h.each⟩
theorem zfP {D U:World} {hi m g:Nat} {ao:Option Addr} {c:Nat} {y:Nat→RecD} {cy:Nat→List Value} {v0:Value} {x':Nat→RecD} {ce:Nat→List Value} {cR:List Value} (hS:Src zab D hi ao m y cy) (hz:ao=none→c=0∨m=0) (hA:∀ b off,ao=some ⟨b,off,none⟩→b<D.heap.size) (hb:Below D.heap.size D U) (hh:hi≤D.heap.size) (hm:m≤1000000)
 (V:View zab 83 U D.heap.size hi v0 0 x' ce) (hX:Box U g cR.toArray 83) (hg:v0.ownBlock≠some g):∃ v' w' ce',(Builtin.append_ #[30,30] 30 #[v0,.slice ao m c]).run Tryz.prog U=.ok v' w'∧(View zab 83 w' D.heap.size hi v' m y ce'∧Box w' g cR.toArray 83)∧Below D.heap.size U w':=by
 obtain ⟨v',w',hrun,V',hgr,b'⟩:=za7 zcu zaM 30 V c (hS.below hb hA hh) hb.size hh (by omega) hz;refine ⟨v',w',cat2 ce 0 cy,hrun,⟨?_,?_⟩,b'⟩
 ·rw [Nat.zero_add] at V'
  exact V'.congr (fun i hi=>by unfold cat2;rw [if_neg (by omega)];rfl)
 ·exact (hgr.block g hX.lt (fun h=>hg h.symm)).trans hX
theorem zdZ {D U:World} {hi m g:Nat} {v:Value} {x:Nat→RecD} {ce:Nat→List Value} {r:RecD} {cR:List Value} (hb:Below D.heap.size D U) (hh:hi≤D.heap.size) (hm:m≤1000000) (V:View zab 83 U D.heap.size hi v m x ce) (hX:Box U g cR.toArray 83) (hr:zab.rd U hi r cR) :
 ∃ v' w' ce',(Builtin.append_ #[30,30] 30 #[v,.slice (some ⟨g,0,none⟩) 1 1]).run Tryz.prog U=.ok v' w'∧View zab 83 w' D.heap.size hi v' (m+1) (cat2 x m (fun _=>r)) ce'∧Below D.heap.size U w':=by
 obtain ⟨v',w',hrun,V',_,b'⟩:=za7 zcu zaM 30 V 1 (zdV (b:=g) (hi:=hi) (y:=r) (cs:=cR) (fun j hj=>by rw [hX.cell j];simp) hr) hb.size hh (by omega) (fun h=>by cases h);exact ⟨v',w',_,hrun,V',b'⟩
theorem zdj {D U:World} {hi m k:Nat} {ao:Option Addr} {c:Nat} {y:Nat→RecD} {cy:Nat→List Value} {v:Value} {x:Nat→RecD} {ce:Nat→List Value} (hS:Src zab D hi ao k y cy) (hz:ao=none→c=0∨k=0) (hA:∀ b off,ao=some ⟨b,off,none⟩→b<D.heap.size) (hb:Below D.heap.size D U) (hh:hi≤D.heap.size) (hm:m+k≤2000000)
 (V:View zab 83 U D.heap.size hi v m x ce):∃ v' w' ce',(Builtin.append_ #[30,30] 30 #[v,.slice ao k c]).run Tryz.prog U=.ok v' w'∧View zab 83 w' D.heap.size hi v' (m+k) (cat2 x m y) ce'∧Below D.heap.size U w':=by
 obtain ⟨v',w',hrun,V',_,b'⟩:=za7 zcu zaM 30 V c (hS.below hb hA hh) hb.size hh (by omega) hz;exact ⟨v',w',_,hrun,V',b'⟩
theorem zb2 (l:List Nat) (M at_:Nat) (h:at_≤l.length):(l.take at_++M::l.drop at_).length=at_+1+(l.length-at_):=by
 rw [List.length_append,List.length_cons,List.length_take,List.length_drop];omega
theorem zdk (x0:Nat→RecD) (l:List Nat) (M at_:Nat) (h:at_≤l.length) (i:Nat):cat2 (cat2 (fun i=>x0 (l.getD i 0)) at_ (fun _=>x0 M)) (at_+1) (fun j=>x0 (l.getD (at_+j) 0)) i=x0 ((l.take at_++M::l.drop at_).getD i 0):=by
 have hl:(l.take at_).length=at_:=by rw [List.length_take];omega
 by_cases c1:i<at_
 ·rw [zbK _ _ (by omega),zbK _ _ c1]
  congr 1
  rw [List.getD_eq_getElem?_getD,List.getD_eq_getElem?_getD,List.getElem?_append_left (by omega),List.getElem?_take,if_pos c1]
 ·by_cases c2:i=at_
  ·subst c2
   have e:=zbS (fun i=>x0 (l.getD i 0)) i (fun _=>x0 M) 0;rw [Nat.add_zero] at e;rw [zbK _ _ (by omega),e]
   congr 1
   rw [List.getD_eq_getElem?_getD,List.getElem?_append_right (by omega),hl]
   simp
  ·obtain ⟨j,rfl⟩:∃ j,i=at_+1+j:=⟨i-(at_+1),by omega⟩
   rw [zbS]
   congr 1
   rw [List.getD_eq_getElem?_getD,List.getD_eq_getElem?_getD,List.getElem?_append_right (by omega),hl,show at_+1+j-at_=j+1 by omega,List.getElem?_cons_succ,List.getElem?_drop]
end Go.Proofs.YtajibninhikdgaaGreat
