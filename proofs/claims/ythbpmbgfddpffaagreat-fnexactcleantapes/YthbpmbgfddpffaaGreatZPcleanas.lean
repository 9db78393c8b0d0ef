/- Spent records: the specification's side. -/
import Derived.Deep.RegionHeld3
import Derived.Test.YthbpmbgfddpffaaGreatZPcleanar
set_option linter.unusedVariables false
set_option linter.unusedSimpArgs false
set_option maxHeartbeats 16000000
namespace Go.Proofs.YthbpmbgfddpffaaGreat
open Go.RowKit F256
set_option maxRecDepth 100000 in
theorem zho (s:Nat→Int) (hok:zap s) (v:Value) (n:Nat) (x:Nat→RecD) (hi:Nat) (w:World) (h:(zab.slice 85).rd w hi (n,x) [v]) (hhi:hi≤w.heap.size) (hn:n≤1048576) (r:RecD) (ao6 ao7 ao8:Option Addr) (cap6 cap7 cap8:Nat) :
 Calls Tryz.prog 117 #[zal s,v,.agg #[.int .i64 r.kind,.int .i64 r.seq,.string r.name,.int .i64 r.length,.int .i64 r.group,.int .i64 r.row,.slice ao6 r.rows.1 cap6,.slice ao7 r.data.1 cap7,.slice ao8 r.delta.1 cap8]] w (zba (DonP x n r.seq r.group∧∀ g,s 0≤g→g<s 0+s 1→DonP x n r.seq g) w):=by
 obtain ⟨ao,cap,e,hmm,hc⟩:=id h
 obtain rfl:v=.slice ao n cap:=by simpa using e
 have HRD:=hid h;have HOK:=hid hok;have hsb:=okB hok;have T0:=zaz w (rwS s).toArray (rwR r ao6 cap6 ao7 cap7 ao8 cap8).toArray 30 85;obtain ⟨td,htd⟩:=exB (DonP x n r.seq r.group);have HTD:=hid htd;have CD:=zbv (zgD (.slice ao n cap) n x r.seq r.group hi _ (Lay.rd_below _ h T0.bel hhi) (Nat.le_trans hhi T0.bel.size) hn) htd;unfold zal;clear e hmm hc h htd hok
 go_enter Tryz.func117,Tryz.ntmps117
 go_wp2_with fail
 refine CD.mono ?_;rintro e w1 ⟨rfl,b1⟩;have HT1:=hid (T0.call b1);have s0:w1.cell? ⟨w.heap.size,0,none⟩=some (.int .i64 (s 0)):=HT1.out.b1.cell 0;clear CD b1 T0;go_wp2
 go_loopw [7,8] (fun a z wr=>∃ (k:Nat) (t:Bool),(k:Int)≤s 1∧a=.bool t∧z=.int .i64 (s 0+k)∧(t=true↔(DonP x n r.seq r.group∧∀ u:Nat,u<k→DonP x n r.seq (s 0+u)))∧Two w wr (rwS s).toArray (rwR r ao6 cap6 ao7 cap7 ao8 cap8).toArray 30 85) (fun _ z _=>(s 0+s 1-intOf z).toNat)
 case atStart=>exact ⟨0,td,by omega,rfl,by simp,HTD.out.trans ⟨fun h=>⟨h,fun u hu=>by omega⟩,fun h=>h.1⟩,HT1.out⟩
 case round=>
  clear s0 HT1;obtain ⟨k,t,hk,rfl,rfl,ht,hT⟩:=hrel;obtain ⟨wx,rfl⟩:∃ y,y=wr:=⟨_,rfl⟩;have HTT:=hid ht;have HT2:=hid hT;have CL:=zcd s HOK.out wx;unfold zal at CL;have x_0:wx.cell? ⟨w.heap.size,0,none⟩=some (.int .i64 (s 0)):=HT2.out.b1.cell 0;have x_1:wx.cell? ⟨w.heap.size,1,none⟩=some (.int .i64 (s 1)):=HT2.out.b1.cell 1;have x_2:wx.cell? ⟨w.heap.size,2,none⟩=some (.int .i64 (s 2)):=HT2.out.b1.cell 2;have x_3:wx.cell? ⟨w.heap.size,3,none⟩=some (.int .i64 (s 3)):=HT2.out.b1.cell 3;have x_4:wx.cell? ⟨w.heap.size,4,none⟩=some (.int .i64 (s 4)):=HT2.out.b1.cell 4;have x_5:wx.cell? ⟨w.heap.size,5,none⟩=some (.int .i64 (s 5)):=HT2.out.b1.cell 5;have x_6:wx.cell? ⟨w.heap.size,6,none⟩=some (.int .i64 (s 6)):=HT2.out.b1.cell 6;have x_7:wx.cell? ⟨w.heap.size,7,none⟩=some (.int .i64 (s 7)):=HT2.out.b1.cell 7;have x_8:wx.cell? ⟨w.heap.size,8,none⟩=some (.int .i64 (s 8)):=HT2.out.b1.cell 8;clear ht hT
  by_cases hlt:(k:Int)<s 1
  ·have t1:s 0+(k:Int)<s 0+s 1:=by omega
   have zi:IntKind.i64.wrap (s 0+(k:Int)+1)=s 0+((k+1:Nat):Int):=by rw [IntKind.wrap_i64];omega
   go_wp2_with fail
   refine CL.mono ?_;rintro e w5 ⟨rfl,b5⟩;have HT5:=hid (HT2.out.call b5);have y1:w5.cell? ⟨w.heap.size+1,1,none⟩=some (.int .i64 r.seq):=HT5.out.b2.cell 1;clear CL b5 x_0 x_1 x_2 x_3 x_4 x_5 x_6 x_7 x_8
   cases t with
   | false=>
    go_wp2
    go_roundw
    case rel=>exact ⟨k+1,false,by omega,rfl,by first | rfl | simp [zi] | (rw [zi]),⟨(fun h=>by cases h),fun h=>absurd (HTT.out.2 ⟨h.1,fun u hu=>h.2 u (by omega)⟩) (by simp)⟩,HT5.out⟩
    case measure=>simp [intOf,zi];omega
   | true=>
    obtain ⟨te,hte⟩:=exB (DonP x n r.seq (s 0+(k:Int)));have HTE:=hid hte;have CE:=zbv (zgD (.slice ao n cap) n x r.seq (s 0+(k:Int)) hi w5 (Lay.rd_below _ HRD.out HT5.out.bel hhi) (Nat.le_trans hhi HT5.out.bel.size) hn) hte;clear hte
    go_wp2_with fail
    refine CE.mono ?_;rintro e w6 ⟨rfl,b6⟩;have HT6:=hid (HT5.out.call b6);clear CE b6 y1;go_wp2
    go_roundw
    case rel=>exact ⟨k+1,te,by omega,rfl,by first | rfl | simp [zi] | (rw [zi]),⟨fun h=>⟨(HTT.out.1 (by simp)).1,fun u hu=>by
     by_cases c:u=k
     ·subst c;exact HTE.out.1 h
     ·exact (HTT.out.1 (by simp)).2 u (by omega)⟩,fun h=>HTE.out.2 (h.2 k (by omega))⟩,HT6.out⟩
    case measure=>simp [intOf,zi];omega
  ·have t1:decide (s 0+(k:Int)<s 0+s 1)=false:=by simp;omega
   have HDN:Hid (t=true↔(DonP x n r.seq r.group∧∀ g,s 0≤g→g<s 0+s 1→DonP x n r.seq g)):=HTT.out.trans ⟨fun h=>⟨h.1,fun g h1 h2=>by
    have:=h.2 (g-s 0).toNat (by omega);rw [show s 0+((g-s 0).toNat:Int)=g by omega] at this
    exact this⟩,fun h=>⟨h.1,fun u hu=>h.2 _ (by omega) (by omega)⟩⟩
   go_wp2_with fail
   refine CL.mono ?_;rintro e w5 ⟨rfl,b5⟩;have HT5:=hid (HT2.out.call b5);clear CL b5 x_0 x_1 x_2 x_3 x_4 x_5 x_6 x_7 x_8;go_wp2;go_ret;exact ⟨t,rfl,HDN.out,HT5.out.bel⟩
set_option maxRecDepth 100000 in
theorem zge (s:Nat→Int) (hok:zap s) (v:Value) (n:Nat) (x:Nat→RecD) (hi:Nat) (w:World) (h:(zab.slice 85).rd w hi (n,x) [v]) (hhi:hi≤w.heap.size) (hn:n≤1048576) {i:Nat} (hi':i<n) (hk:(x i).kind=1) :
 Calls Tryz.prog 71 #[zal s,v,.int .i64 i] w (zba (SptP s x n i) w):=by
 obtain ⟨ao,cap,e,hmm,hc⟩:=id h
 obtain rfl:v=.slice ao n cap:=by simpa using e
 have HRD:Hid ((zab.slice 85).rd w hi (n,x) [.slice ao n cap]):=h;have HOK:Hid (zap s):=hok;have HC:Hid (n≠0→∃ b off,ao=some ⟨b,off,none⟩∧b<hi∧∀ i,i<n→∃ ce,zab.rd w hi (x i) ce∧∀ j,j<zab.sz→w.cell? ⟨b,off+(i*zab.sz+j),none⟩=ce[j]?):=hc;have HI:Hid (i<n):=hi';have B0:=zaK w (rwS s).toArray 30;obtain ⟨b,off,rfl,hbh,hel⟩:=HC.out (by omega);obtain ⟨ce,hy,hcell⟩:=zat (t:=85) hel B0.bel hhi hbh hi';obtain ⟨ao6,cap6,ao7,cap7,ao8,cap8,rfl,-,-,-,k0,k1,k2,k3,k4,k5⟩:=zaD hy;obtain ⟨r,hr⟩:∃ r,r=x i:=⟨_,rfl⟩;have HRR:Hid (r=x i):=hr
 have HK:Hid (r.kind=1):=by show r.kind=1;rw [hr];exact hk
 have HKX:Hid ((x i).kind=1):=hk;rw [← hr] at hcell
 have d1:(r.kind==1)=true:=by rw [HK.out];rfl
 have d2:(r.kind==2)=false:=by rw [HK.out];rfl
 have d3:(r.kind==3)=false:=by rw [HK.out];rfl
 have d4:(r.kind==4)=false:=by rw [HK.out];rfl
 have r1:(w.alloc (.cells (rwS s).toArray 30)).rangeAt b (off+i*9) (rwR r ao6 cap6 ao7 cap7 ao8 cap8):=fun j v hv=>by
  have hj:j<9:=by have e:j<((rwR r ao6 cap6 ao7 cap7 ao8 cap8):List Value).length:=(List.getElem?_eq_some_iff.1 hv).1;exact e
  have:=hcell j hj;rw [← Nat.add_assoc] at this;exact this.trans hv
 have i1:(0:Int)≤(i:Int):=by omega
 have i2:(i:Int)<(n:Int):=by omega
 have T0:=zaz w (rwS s).toArray (rwR r ao6 cap6 ao7 cap7 ao8 cap8).toArray 30 85;unfold zal;clear hcell hel hy hr hk e hmm hc h hok B0 k0 k1 k2 k3 k4 k5
 go_enter Tryz.func71,Tryz.ntmps71
 go_upto_region 2 with (refine wpList_load_mid rfl 85 (.tmp 12) rfl b (off+i*9) (by simp [Act.eval,Act.put]) (rwR r ao6 cap6 ao7 cap7 ao8 cap8) _ r1 Tryz.underlying85 rfl (zam rfl) ?_)
 obtain ⟨W2,hW2⟩:∃ y,y=(w.alloc (.cells (rwS s).toArray 30)).alloc (.cells (rwR r ao6 cap6 ao7 cap7 ao8 cap8).toArray 85):=⟨_,rfl⟩;rw [← hW2] at T0 ⊢;have HT:Hid (Two w W2 (rwS s).toArray (rwR r ao6 cap6 ao7 cap7 ao8 cap8).toArray 30 85):=T0;clear hW2 r1 i1 i2 T0;obtain ⟨a,ha⟩:∃ a,a=zcA (itm x r.name) n:=⟨_,rfl⟩;have HA:Hid (a=zcA (itm x r.name) n):=ha;have CN:=zif (.slice (some ⟨b,off,none⟩) n cap) n x r.name hi W2 (Lay.rd_below _ HRD.out HT.out.bel hhi) (Nat.le_trans hhi HT.out.bel.size) hn;rw [← ha] at CN;have y_0:W2.cell? ⟨(w.heap.size+1),0,none⟩=some (.int .i64 r.kind):=HT.out.b2.cell 0;have y_1:W2.cell? ⟨(w.heap.size+1),1,none⟩=some (.int .i64 r.seq):=HT.out.b2.cell 1;have y_2:W2.cell? ⟨(w.heap.size+1),2,none⟩=some (.string r.name):=HT.out.b2.cell 2;have y_3:W2.cell? ⟨(w.heap.size+1),3,none⟩=some (.int .i64 r.length):=HT.out.b2.cell 3;have y_4:W2.cell? ⟨(w.heap.size+1),4,none⟩=some (.int .i64 r.group):=HT.out.b2.cell 4;have y_5:W2.cell? ⟨(w.heap.size+1),5,none⟩=some (.int .i64 r.row):=HT.out.b2.cell 5;have y_6:W2.cell? ⟨(w.heap.size+1),6,none⟩=some (.slice ao6 r.rows.1 cap6):=HT.out.b2.cell 6;have y_7:W2.cell? ⟨(w.heap.size+1),7,none⟩=some (.slice ao7 r.data.1 cap7):=HT.out.b2.cell 7;have y_8:W2.cell? ⟨(w.heap.size+1),8,none⟩=some (.slice ao8 r.delta.1 cap8):=HT.out.b2.cell 8;clear ha
 go_wp2_with fail
 refine CN.mono ?_;rintro e w3 ⟨rfl,b3⟩;have HT3:Hid (Two w w3 (rwS s).toArray (rwR r ao6 cap6 ao7 cap7 ao8 cap8).toArray 30 85):=HT.out.call b3;clear CN b3 y_0 y_1 y_2 y_3 y_4 y_5 y_6 y_7 y_8;go_wp2;go_ret;exact ⟨_,rfl,by rw [spt1 HKX.out,← HRR.out,← HA.out];simp,HT3.out.bel⟩
set_option maxRecDepth 100000 in
theorem zgf (s:Nat→Int) (hok:zap s) (v:Value) (n:Nat) (x:Nat→RecD) (hi:Nat) (w:World) (h:(zab.slice 85).rd w hi (n,x) [v]) (hhi:hi≤w.heap.size) (hn:n≤1048576) {i:Nat} (hi':i<n) (hk:(x i).kind=2) :
 Calls Tryz.prog 71 #[zal s,v,.int .i64 i] w (zba (SptP s x n i) w):=by
 obtain ⟨ao,cap,e,hmm,hc⟩:=id h
 obtain rfl:v=.slice ao n cap:=by simpa using e
 have HRD:Hid ((zab.slice 85).rd w hi (n,x) [.slice ao n cap]):=h;have HOK:Hid (zap s):=hok;have HC:Hid (n≠0→∃ b off,ao=some ⟨b,off,none⟩∧b<hi∧∀ i,i<n→∃ ce,zab.rd w hi (x i) ce∧∀ j,j<zab.sz→w.cell? ⟨b,off+(i*zab.sz+j),none⟩=ce[j]?):=hc;have HI:Hid (i<n):=hi';have B0:=zaK w (rwS s).toArray 30;obtain ⟨b,off,rfl,hbh,hel⟩:=HC.out (by omega);obtain ⟨ce,hy,hcell⟩:=zat (t:=85) hel B0.bel hhi hbh hi';obtain ⟨ao6,cap6,ao7,cap7,ao8,cap8,rfl,-,-,-,k0,k1,k2,k3,k4,k5⟩:=zaD hy;obtain ⟨r,hr⟩:∃ r,r=x i:=⟨_,rfl⟩;have HRR:Hid (r=x i):=hr
 have HK:Hid (r.kind=2):=by show r.kind=2;rw [hr];exact hk
 have HKX:Hid ((x i).kind=2):=hk;rw [← hr] at hcell
 have d1:(r.kind==1)=false:=by rw [HK.out];rfl
 have d2:(r.kind==2)=true:=by rw [HK.out];rfl
 have d3:(r.kind==3)=false:=by rw [HK.out];rfl
 have d4:(r.kind==4)=false:=by rw [HK.out];rfl
 have r1:(w.alloc (.cells (rwS s).toArray 30)).rangeAt b (off+i*9) (rwR r ao6 cap6 ao7 cap7 ao8 cap8):=fun j v hv=>by
  have hj:j<9:=by have e:j<((rwR r ao6 cap6 ao7 cap7 ao8 cap8):List Value).length:=(List.getElem?_eq_some_iff.1 hv).1;exact e
  have:=hcell j hj;rw [← Nat.add_assoc] at this;exact this.trans hv
 have i1:(0:Int)≤(i:Int):=by omega
 have i2:(i:Int)<(n:Int):=by omega
 have T0:=zaz w (rwS s).toArray (rwR r ao6 cap6 ao7 cap7 ao8 cap8).toArray 30 85;unfold zal;clear hcell hel hy hr hk e hmm hc h hok B0 k0 k1 k2 k3 k4 k5
 go_enter Tryz.func71,Tryz.ntmps71
 go_upto_region 2 with (refine wpList_load_mid rfl 85 (.tmp 12) rfl b (off+i*9) (by simp [Act.eval,Act.put]) (rwR r ao6 cap6 ao7 cap7 ao8 cap8) _ r1 Tryz.underlying85 rfl (zam rfl) ?_)
 obtain ⟨W2,hW2⟩:∃ y,y=(w.alloc (.cells (rwS s).toArray 30)).alloc (.cells (rwR r ao6 cap6 ao7 cap7 ao8 cap8).toArray 85):=⟨_,rfl⟩;rw [← hW2] at T0 ⊢;have HT:Hid (Two w W2 (rwS s).toArray (rwR r ao6 cap6 ao7 cap7 ao8 cap8).toArray 30 85):=T0;clear hW2 r1 i1 i2 T0;have CS:=zho s HOK.out (.slice (some ⟨b,off,none⟩) n cap) n x hi W2 (Lay.rd_below _ HRD.out HT.out.bel hhi) (Nat.le_trans hhi HT.out.bel.size) hn r ao6 ao7 ao8 cap6 cap7 cap8;unfold zal at CS;have x_0:W2.cell? ⟨w.heap.size,0,none⟩=some (.int .i64 (s 0)):=HT.out.b1.cell 0;have x_1:W2.cell? ⟨w.heap.size,1,none⟩=some (.int .i64 (s 1)):=HT.out.b1.cell 1;have x_2:W2.cell? ⟨w.heap.size,2,none⟩=some (.int .i64 (s 2)):=HT.out.b1.cell 2;have x_3:W2.cell? ⟨w.heap.size,3,none⟩=some (.int .i64 (s 3)):=HT.out.b1.cell 3;have x_4:W2.cell? ⟨w.heap.size,4,none⟩=some (.int .i64 (s 4)):=HT.out.b1.cell 4;have x_5:W2.cell? ⟨w.heap.size,5,none⟩=some (.int .i64 (s 5)):=HT.out.b1.cell 5;have x_6:W2.cell? ⟨w.heap.size,6,none⟩=some (.int .i64 (s 6)):=HT.out.b1.cell 6;have x_7:W2.cell? ⟨w.heap.size,7,none⟩=some (.int .i64 (s 7)):=HT.out.b1.cell 7;have x_8:W2.cell? ⟨w.heap.size,8,none⟩=some (.int .i64 (s 8)):=HT.out.b1.cell 8;have y_0:W2.cell? ⟨(w.heap.size+1),0,none⟩=some (.int .i64 r.kind):=HT.out.b2.cell 0;have y_1:W2.cell? ⟨(w.heap.size+1),1,none⟩=some (.int .i64 r.seq):=HT.out.b2.cell 1;have y_2:W2.cell? ⟨(w.heap.size+1),2,none⟩=some (.string r.name):=HT.out.b2.cell 2;have y_3:W2.cell? ⟨(w.heap.size+1),3,none⟩=some (.int .i64 r.length):=HT.out.b2.cell 3;have y_4:W2.cell? ⟨(w.heap.size+1),4,none⟩=some (.int .i64 r.group):=HT.out.b2.cell 4;have y_5:W2.cell? ⟨(w.heap.size+1),5,none⟩=some (.int .i64 r.row):=HT.out.b2.cell 5;have y_6:W2.cell? ⟨(w.heap.size+1),6,none⟩=some (.slice ao6 r.rows.1 cap6):=HT.out.b2.cell 6;have y_7:W2.cell? ⟨(w.heap.size+1),7,none⟩=some (.slice ao7 r.data.1 cap7):=HT.out.b2.cell 7;have y_8:W2.cell? ⟨(w.heap.size+1),8,none⟩=some (.slice ao8 r.delta.1 cap8):=HT.out.b2.cell 8
 go_wp2_with fail
 refine CS.mono ?_;rintro e w3 ⟨t,rfl,ht,b3⟩;have HTT:Hid (t=true↔(DonP x n r.seq r.group∧∀ g,s 0≤g→g<s 0+s 1→DonP x n r.seq g)):=ht;have HT3:Hid (Two w w3 (rwS s).toArray (rwR r ao6 cap6 ao7 cap7 ao8 cap8).toArray 30 85):=HT.out.call b3;clear CS b3 ht x_0 x_1 x_2 x_3 x_4 x_5 x_6 x_7 x_8 y_0 y_1 y_2 y_3 y_4 y_5 y_6 y_7 y_8;go_wp2;go_ret;exact ⟨t,rfl,by rw [spt2 HKX.out,← HRR.out];exact HTT.out,HT3.out.bel⟩
set_option maxRecDepth 100000 in
theorem zgg (s:Nat→Int) (hok:zap s) (v:Value) (n:Nat) (x:Nat→RecD) (hi:Nat) (w:World) (h:(zab.slice 85).rd w hi (n,x) [v]) (hhi:hi≤w.heap.size) (hn:n≤1048576) {i:Nat} (hi':i<n) (hk:(x i).kind=3) :
 Calls Tryz.prog 71 #[zal s,v,.int .i64 i] w (zba (SptP s x n i) w):=by
 obtain ⟨ao,cap,e,hmm,hc⟩:=id h
 obtain rfl:v=.slice ao n cap:=by simpa using e
 have HRD:Hid ((zab.slice 85).rd w hi (n,x) [.slice ao n cap]):=h;have HOK:Hid (zap s):=hok;have HC:Hid (n≠0→∃ b off,ao=some ⟨b,off,none⟩∧b<hi∧∀ i,i<n→∃ ce,zab.rd w hi (x i) ce∧∀ j,j<zab.sz→w.cell? ⟨b,off+(i*zab.sz+j),none⟩=ce[j]?):=hc;have HI:Hid (i<n):=hi';have B0:=zaK w (rwS s).toArray 30;obtain ⟨b,off,rfl,hbh,hel⟩:=HC.out (by omega);obtain ⟨ce,hy,hcell⟩:=zat (t:=85) hel B0.bel hhi hbh hi';obtain ⟨ao6,cap6,ao7,cap7,ao8,cap8,rfl,-,-,-,k0,k1,k2,k3,k4,k5⟩:=zaD hy;obtain ⟨r,hr⟩:∃ r,r=x i:=⟨_,rfl⟩;have HRR:Hid (r=x i):=hr
 have HK:Hid (r.kind=3):=by show r.kind=3;rw [hr];exact hk
 have HKX:Hid ((x i).kind=3):=hk;rw [← hr] at hcell
 have d1:(r.kind==1)=false:=by rw [HK.out];rfl
 have d2:(r.kind==2)=false:=by rw [HK.out];rfl
 have d3:(r.kind==3)=true:=by rw [HK.out];rfl
 have d4:(r.kind==4)=false:=by rw [HK.out];rfl
 have r1:(w.alloc (.cells (rwS s).toArray 30)).rangeAt b (off+i*9) (rwR r ao6 cap6 ao7 cap7 ao8 cap8):=fun j v hv=>by
  have hj:j<9:=by have e:j<((rwR r ao6 cap6 ao7 cap7 ao8 cap8):List Value).length:=(List.getElem?_eq_some_iff.1 hv).1;exact e
  have:=hcell j hj;rw [← Nat.add_assoc] at this;exact this.trans hv
 have i1:(0:Int)≤(i:Int):=by omega
 have i2:(i:Int)<(n:Int):=by omega
 have T0:=zaz w (rwS s).toArray (rwR r ao6 cap6 ao7 cap7 ao8 cap8).toArray 30 85;unfold zal;clear hcell hel hy hr hk e hmm hc h hok B0 k0 k1 k2 k3 k4 k5
 go_enter Tryz.func71,Tryz.ntmps71
 go_upto_region 2 with (refine wpList_load_mid rfl 85 (.tmp 12) rfl b (off+i*9) (by simp [Act.eval,Act.put]) (rwR r ao6 cap6 ao7 cap7 ao8 cap8) _ r1 Tryz.underlying85 rfl (zam rfl) ?_)
 obtain ⟨W2,hW2⟩:∃ y,y=(w.alloc (.cells (rwS s).toArray 30)).alloc (.cells (rwR r ao6 cap6 ao7 cap7 ao8 cap8).toArray 85):=⟨_,rfl⟩;rw [← hW2] at T0 ⊢;have HT:Hid (Two w W2 (rwS s).toArray (rwR r ao6 cap6 ao7 cap7 ao8 cap8).toArray 30 85):=T0;clear hW2 r1 i1 i2 T0;have y_0:W2.cell? ⟨w.heap.size+1,0,none⟩=some (.int .i64 r.kind):=HT.out.b2.cell 0;go_wp2
 go_loopw [8] (fun z wr=>∃ k:Nat,k≤n∧z=.int .i64 k∧(∀ t,t<k→¬ ((x t).kind=2∧(x t).seq=r.seq))∧Two w wr (rwS s).toArray (rwR r ao6 cap6 ao7 cap7 ao8 cap8).toArray 30 85) (fun z _=>n-(intOf z).toNat)
 case atStart=>exact ⟨0,Nat.zero_le _,rfl,fun t ht=>by omega,HT.out⟩
 case round=>
  clear y_0 HT;obtain ⟨k,hk,rfl,hall,hT⟩:=hrel;have HALL:Hid (∀ t,t<k→¬ ((x t).kind=2∧(x t).seq=r.seq)):=hall;have HT2:Hid (Two w wr (rwS s).toArray (rwR r ao6 cap6 ao7 cap7 ao8 cap8).toArray 30 85):=hT;have hbl:=hT.bel;have zr:w.heap.size+1<wr.heap.size:=hT.b2.lt;clear hall hT
  by_cases hlt:k<n
  ·obtain ⟨b',off',hb',hbh',hel⟩:=HC.out (by omega)
   obtain ⟨rfl,rfl⟩:b=b'∧off=off':=by simpa using hb'
   obtain ⟨ce,hy,hcell⟩:=zat (t:=85) hel hbl hhi hbh hlt;obtain ⟨bo6,bap6,bo7,bap7,bo8,bap8,rfl,-,-,-,-⟩:=zaD hy;obtain ⟨q,hq⟩:∃ q,q=x k:=⟨_,rfl⟩;have HQQ:Hid (q=x k):=hq;rw [← hq] at hcell
   have r1:wr.rangeAt b (off+k*9) (rwR q bo6 bap6 bo7 bap7 bo8 bap8):=fun j v hv=>by
    have hj:j<9:=by have e:j<((rwR q bo6 bap6 bo7 bap7 bo8 bap8):List Value).length:=(List.getElem?_eq_some_iff.1 hv).1;exact e
    have:=hcell j hj;rw [← Nat.add_assoc] at this;exact this.trans hv
   have i1:(0:Int)≤(k:Int):=by omega
   have i2:(k:Int)<(n:Int):=by omega
   clear hcell hel hy hq hbl hb'
   go_upto_region 10 with (refine wpList_load_mid rfl 85 (.tmp 38) rfl b (off+k*9) (by simp [Act.eval,Act.put]) (rwR q bo6 bap6 bo7 bap7 bo8 bap8) _ r1 Tryz.underlying85 rfl (zam rfl) ?_)
   have bA:=bAl wr (.cells (rwR q bo6 bap6 bo7 bap7 bo8 bap8).toArray 85);have X6:=zaq wr (rwR q bo6 bap6 bo7 bap7 bo8 bap8).toArray 85;obtain ⟨W6,hW6⟩:∃ y,y=wr.alloc (.cells (rwR q bo6 bap6 bo7 bap7 bo8 bap8).toArray 85):=⟨_,rfl⟩;rw [← hW6] at bA X6 ⊢;have HT6:Hid (Two w W6 (rwS s).toArray (rwR r ao6 cap6 ao7 cap7 ao8 cap8).toArray 30 85):=HT2.out.call bA;have y_0:W6.cell? ⟨(w.heap.size+1),0,none⟩=some (.int .i64 r.kind):=HT6.out.b2.cell 0;have y_1:W6.cell? ⟨(w.heap.size+1),1,none⟩=some (.int .i64 r.seq):=HT6.out.b2.cell 1;have y_4:W6.cell? ⟨(w.heap.size+1),4,none⟩=some (.int .i64 r.group):=HT6.out.b2.cell 4;have y_5:W6.cell? ⟨(w.heap.size+1),5,none⟩=some (.int .i64 r.row):=HT6.out.b2.cell 5;have z_0:W6.cell? ⟨wr.heap.size,0,none⟩=some (.int .i64 q.kind):=X6.cell 0;have z_1:W6.cell? ⟨wr.heap.size,1,none⟩=some (.int .i64 q.seq):=X6.cell 1;have z_4:W6.cell? ⟨wr.heap.size,4,none⟩=some (.int .i64 q.group):=X6.cell 4;have z_5:W6.cell? ⟨wr.heap.size,5,none⟩=some (.int .i64 q.row):=X6.cell 5;clear hW6 bA X6 r1 HT2
   by_cases c1:q.kind=2
   ·have c1d:(q.kind==2)=true:=by simp [c1]
    have Hc1:Hid (q.kind=2):=c1;clear c1
    by_cases c2:q.seq=r.seq
    ·have c2d:(q.seq==r.seq)=true:=by simp [c2]
     have Hc2:Hid (q.seq=r.seq):=c2;clear c2;go_wp2;go_ret;exact ⟨false,rfl,⟨(fun h=>by cases h),fun h=>absurd (show ∃ j,j<n∧(x j).kind=2∧(x j).seq=(x i).seq from ⟨k,hlt,by rw [← HQQ.out];exact Hc1.out,by rw [← HQQ.out,← HRR.out];exact Hc2.out⟩) ((spt3 HKX.out).1 h)⟩,HT6.out.bel⟩
    ·have c2d:(q.seq==r.seq)=false:=by simp [c2]
     have Hc2:Hid (¬ q.seq=r.seq):=c2;clear c2;go_wp2
     go_roundw
     case rel=>exact ⟨k+1,by omega,by go_num,fun t ht=>(by
      by_cases c:t=k
      ·subst c;rw [← HQQ.out];exact fun h=>Hc2.out h.2
      ·exact HALL.out t (by omega)),HT6.out⟩
     case measure=>simp [intOf];omega
   ·have c1d:(q.kind==2)=false:=by simp [c1]
    have Hc1:Hid (¬ q.kind=2):=c1;clear c1;go_wp2
    go_roundw
    case rel=>exact ⟨k+1,by omega,by go_num,fun t ht=>(by
     by_cases c:t=k
     ·subst c;rw [← HQQ.out];exact fun h=>Hc1.out h.1
     ·exact HALL.out t (by omega)),HT6.out⟩
    case measure=>simp [intOf];omega
  ·obtain rfl:k=n:=by omega
   have y_0:wr.cell? ⟨w.heap.size+1,0,none⟩=some (.int .i64 r.kind):=HT2.out.b2.cell 0;clear hbl;go_wp2;go_ret;exact ⟨true,rfl,⟨fun _=>(spt3 HKX.out).2 (fun ⟨j,h1,h2⟩=>HALL.out j h1 (by rw [HRR.out];exact h2)),fun _=>rfl⟩,HT2.out.bel⟩
set_option maxRecDepth 100000 in
theorem zfZ (s:Nat→Int) (hok:zap s) (v:Value) (n:Nat) (x:Nat→RecD) (hi:Nat) (w:World) (h:(zab.slice 85).rd w hi (n,x) [v]) (hhi:hi≤w.heap.size) (hn:n≤1048576) {i:Nat} (hi':i<n) (hk:(x i).kind=4) :
 Calls Tryz.prog 71 #[zal s,v,.int .i64 i] w (zba (SptP s x n i) w):=by
 obtain ⟨ao,cap,e,hmm,hc⟩:=id h
 obtain rfl:v=.slice ao n cap:=by simpa using e
 have HRD:Hid ((zab.slice 85).rd w hi (n,x) [.slice ao n cap]):=h;have HOK:Hid (zap s):=hok;have HC:Hid (n≠0→∃ b off,ao=some ⟨b,off,none⟩∧b<hi∧∀ i,i<n→∃ ce,zab.rd w hi (x i) ce∧∀ j,j<zab.sz→w.cell? ⟨b,off+(i*zab.sz+j),none⟩=ce[j]?):=hc;have HI:Hid (i<n):=hi';have B0:=zaK w (rwS s).toArray 30;obtain ⟨b,off,rfl,hbh,hel⟩:=HC.out (by omega);obtain ⟨ce,hy,hcell⟩:=zat (t:=85) hel B0.bel hhi hbh hi';obtain ⟨ao6,cap6,ao7,cap7,ao8,cap8,rfl,-,-,-,k0,k1,k2,k3,k4,k5⟩:=zaD hy;obtain ⟨r,hr⟩:∃ r,r=x i:=⟨_,rfl⟩;have HRR:Hid (r=x i):=hr
 have HK:Hid (r.kind=4):=by show r.kind=4;rw [hr];exact hk
 have HKX:Hid ((x i).kind=4):=hk;rw [← hr] at hcell
 have d1:(r.kind==1)=false:=by rw [HK.out];rfl
 have d2:(r.kind==2)=false:=by rw [HK.out];rfl
 have d3:(r.kind==3)=false:=by rw [HK.out];rfl
 have d4:(r.kind==4)=true:=by rw [HK.out];rfl
 have r1:(w.alloc (.cells (rwS s).toArray 30)).rangeAt b (off+i*9) (rwR r ao6 cap6 ao7 cap7 ao8 cap8):=fun j v hv=>by
  have hj:j<9:=by have e:j<((rwR r ao6 cap6 ao7 cap7 ao8 cap8):List Value).length:=(List.getElem?_eq_some_iff.1 hv).1;exact e
  have:=hcell j hj;rw [← Nat.add_assoc] at this;exact this.trans hv
 have i1:(0:Int)≤(i:Int):=by omega
 have i2:(i:Int)<(n:Int):=by omega
 have T0:=zaz w (rwS s).toArray (rwR r ao6 cap6 ao7 cap7 ao8 cap8).toArray 30 85;unfold zal;clear hcell hel hy hr hk e hmm hc h hok B0 k0 k1 k2 k3 k4 k5
 go_enter Tryz.func71,Tryz.ntmps71
 go_upto_region 2 with (refine wpList_load_mid rfl 85 (.tmp 12) rfl b (off+i*9) (by simp [Act.eval,Act.put]) (rwR r ao6 cap6 ao7 cap7 ao8 cap8) _ r1 Tryz.underlying85 rfl (zam rfl) ?_)
 obtain ⟨W2,hW2⟩:∃ y,y=(w.alloc (.cells (rwS s).toArray 30)).alloc (.cells (rwR r ao6 cap6 ao7 cap7 ao8 cap8).toArray 85):=⟨_,rfl⟩;rw [← hW2] at T0 ⊢;have HT:Hid (Two w W2 (rwS s).toArray (rwR r ao6 cap6 ao7 cap7 ao8 cap8).toArray 30 85):=T0;clear hW2 r1 i1 i2 T0;have y_0:W2.cell? ⟨w.heap.size+1,0,none⟩=some (.int .i64 r.kind):=HT.out.b2.cell 0;go_wp2
 go_loopw [8] (fun z wr=>∃ k:Nat,k≤n∧z=.int .i64 k∧(∀ t,t<k→¬ (((x t).kind=3∧(x t).seq=r.seq)∨((x t).kind=4∧(x t).group=r.group∧(x t).row=r.row∧r.seq<(x t).seq)))∧Two w wr (rwS s).toArray (rwR r ao6 cap6 ao7 cap7 ao8 cap8).toArray 30 85) (fun z _=>n-(intOf z).toNat)
 case atStart=>exact ⟨0,Nat.zero_le _,rfl,fun t ht=>by omega,HT.out⟩
 case round=>
  clear y_0 HT;obtain ⟨k,hk,rfl,hall,hT⟩:=hrel;have HALL:Hid (∀ t,t<k→¬ (((x t).kind=3∧(x t).seq=r.seq)∨((x t).kind=4∧(x t).group=r.group∧(x t).row=r.row∧r.seq<(x t).seq))):=hall;have HT2:Hid (Two w wr (rwS s).toArray (rwR r ao6 cap6 ao7 cap7 ao8 cap8).toArray 30 85):=hT;have hbl:=hT.bel;have zr:w.heap.size+1<wr.heap.size:=hT.b2.lt;clear hall hT
  by_cases hlt:k<n
  ·obtain ⟨b',off',hb',hbh',hel⟩:=HC.out (by omega)
   obtain ⟨rfl,rfl⟩:b=b'∧off=off':=by simpa using hb'
   obtain ⟨ce,hy,hcell⟩:=zat (t:=85) hel hbl hhi hbh hlt;obtain ⟨bo6,bap6,bo7,bap7,bo8,bap8,rfl,-,-,-,-⟩:=zaD hy;obtain ⟨q,hq⟩:∃ q,q=x k:=⟨_,rfl⟩;have HQQ:Hid (q=x k):=hq;rw [← hq] at hcell
   have r1:wr.rangeAt b (off+k*9) (rwR q bo6 bap6 bo7 bap7 bo8 bap8):=fun j v hv=>by
    have hj:j<9:=by have e:j<((rwR q bo6 bap6 bo7 bap7 bo8 bap8):List Value).length:=(List.getElem?_eq_some_iff.1 hv).1;exact e
    have:=hcell j hj;rw [← Nat.add_assoc] at this;exact this.trans hv
   have i1:(0:Int)≤(k:Int):=by omega
   have i2:(k:Int)<(n:Int):=by omega
   clear hcell hel hy hq hbl hb'
   go_upto_region 10 with (refine wpList_load_mid rfl 85 (.tmp 38) rfl b (off+k*9) (by simp [Act.eval,Act.put]) (rwR q bo6 bap6 bo7 bap7 bo8 bap8) _ r1 Tryz.underlying85 rfl (zam rfl) ?_)
   have bA:=bAl wr (.cells (rwR q bo6 bap6 bo7 bap7 bo8 bap8).toArray 85);have X6:=zaq wr (rwR q bo6 bap6 bo7 bap7 bo8 bap8).toArray 85;obtain ⟨W6,hW6⟩:∃ y,y=wr.alloc (.cells (rwR q bo6 bap6 bo7 bap7 bo8 bap8).toArray 85):=⟨_,rfl⟩;rw [← hW6] at bA X6 ⊢;have HT6:Hid (Two w W6 (rwS s).toArray (rwR r ao6 cap6 ao7 cap7 ao8 cap8).toArray 30 85):=HT2.out.call bA;have y_0:W6.cell? ⟨(w.heap.size+1),0,none⟩=some (.int .i64 r.kind):=HT6.out.b2.cell 0;have y_1:W6.cell? ⟨(w.heap.size+1),1,none⟩=some (.int .i64 r.seq):=HT6.out.b2.cell 1;have y_4:W6.cell? ⟨(w.heap.size+1),4,none⟩=some (.int .i64 r.group):=HT6.out.b2.cell 4;have y_5:W6.cell? ⟨(w.heap.size+1),5,none⟩=some (.int .i64 r.row):=HT6.out.b2.cell 5;have z_0:W6.cell? ⟨wr.heap.size,0,none⟩=some (.int .i64 q.kind):=X6.cell 0;have z_1:W6.cell? ⟨wr.heap.size,1,none⟩=some (.int .i64 q.seq):=X6.cell 1;have z_4:W6.cell? ⟨wr.heap.size,4,none⟩=some (.int .i64 q.group):=X6.cell 4;have z_5:W6.cell? ⟨wr.heap.size,5,none⟩=some (.int .i64 q.row):=X6.cell 5;clear hW6 bA X6 r1 HT2
   by_cases c1:q.kind=3
   ·have c1d:(q.kind==3)=true:=by simp [c1]
    have Hc1:Hid (q.kind=3):=c1;clear c1
    have e4:(q.kind==4)=false:=by rw [Hc1.out];rfl
    by_cases c2:q.seq=r.seq
    ·have c2d:(q.seq==r.seq)=true:=by simp [c2]
     have Hc2:Hid (q.seq=r.seq):=c2;clear c2;go_wp2;go_ret;exact ⟨true,rfl,⟨fun _=>(spt4 HKX.out).2 ⟨k,hlt,.inl ⟨by rw [← HQQ.out];exact Hc1.out,by rw [← HQQ.out,← HRR.out];exact Hc2.out⟩⟩,fun _=>rfl⟩,HT6.out.bel⟩
    ·have c2d:(q.seq==r.seq)=false:=by simp [c2]
     have Hc2:Hid (¬ q.seq=r.seq):=c2;clear c2;go_wp2
     go_roundw
     case rel=>exact ⟨k+1,by omega,by go_num,fun t ht=>(by
      by_cases c:t=k
      ·subst c;rw [← HQQ.out];exact fun h=>h.elim (fun a=>Hc2.out a.2) (fun a=>by have:=Hc1.out;omega)
      ·exact HALL.out t (by omega)),HT6.out⟩
     case measure=>simp [intOf];omega
   ·have c1d:(q.kind==3)=false:=by simp [c1]
    have Hc1:Hid (¬ q.kind=3):=c1;clear c1
    by_cases c3:q.kind=4
    ·have c3d:(q.kind==4)=true:=by simp [c3]
     have Hc3:Hid (q.kind=4):=c3;clear c3
     by_cases c4:q.group=r.group
     ·have c4d:(q.group==r.group)=true:=by simp [c4]
      have Hc4:Hid (q.group=r.group):=c4;clear c4
      by_cases c5:q.row=r.row
      ·have c5d:(q.row==r.row)=true:=by simp [c5]
       have Hc5:Hid (q.row=r.row):=c5;clear c5
       by_cases c6:r.seq<q.seq
       ·have Hc6:Hid (r.seq<q.seq):=c6
        go_wp2;go_ret;exact ⟨true,rfl,⟨fun _=>(spt4 HKX.out).2 ⟨k,hlt,.inr (by rw [← HQQ.out,← HRR.out];exact ⟨Hc3.out,Hc4.out,Hc5.out,Hc6.out⟩)⟩,fun _=>rfl⟩,HT6.out.bel⟩
       ·have Hc6:Hid (¬ r.seq<q.seq):=c6
        have c6d:decide (r.seq<q.seq)=false:=decide_eq_false c6;clear c6;go_wp2
        go_roundw
        case rel=>exact ⟨k+1,by omega,by go_num,fun t ht=>(by
         by_cases c:t=k
         ·subst c;rw [← HQQ.out];exact fun h=>h.elim (fun a=>Hc1.out a.1) (fun a=>Hc6.out a.2.2.2)
         ·exact HALL.out t (by omega)),HT6.out⟩
        case measure=>simp [intOf];omega
      ·have c5d:(q.row==r.row)=false:=by simp [c5]
       have Hc5:Hid (¬ q.row=r.row):=c5;clear c5;go_wp2
       go_roundw
       case rel=>exact ⟨k+1,by omega,by go_num,fun t ht=>(by
        by_cases c:t=k
        ·subst c;rw [← HQQ.out];exact fun h=>h.elim (fun a=>Hc1.out a.1) (fun a=>Hc5.out a.2.2.1)
        ·exact HALL.out t (by omega)),HT6.out⟩
       case measure=>simp [intOf];omega
     ·have c4d:(q.group==r.group)=false:=by simp [c4]
      have Hc4:Hid (¬ q.group=r.group):=c4;clear c4;go_wp2
      go_roundw
      case rel=>exact ⟨k+1,by omega,by go_num,fun t ht=>(by
       by_cases c:t=k
       ·subst c;rw [← HQQ.out];exact fun h=>h.elim (fun a=>Hc1.out a.1) (fun a=>Hc4.out a.2.1)
       ·exact HALL.out t (by omega)),HT6.out⟩
      case measure=>simp [intOf];omega
    ·have c3d:(q.kind==4)=false:=by simp [c3]
     have Hc3:Hid (¬ q.kind=4):=c3;clear c3;go_wp2
     go_roundw
     case rel=>exact ⟨k+1,by omega,by go_num,fun t ht=>(by
      by_cases c:t=k
      ·subst c;rw [← HQQ.out];exact fun h=>h.elim (fun a=>Hc1.out a.1) (fun a=>Hc3.out a.1)
      ·exact HALL.out t (by omega)),HT6.out⟩
     case measure=>simp [intOf];omega
  ·obtain rfl:k=n:=by omega
   have y_0:wr.cell? ⟨w.heap.size+1,0,none⟩=some (.int .i64 r.kind):=HT2.out.b2.cell 0;clear hbl;go_wp2;go_ret;exact ⟨false,rfl,⟨(fun h=>by cases h),fun h=>(by obtain ⟨j,h1,h2⟩:=(spt4 HKX.out).1 h;rw [← HRR.out] at h2;exact absurd h2 (HALL.out j h1))⟩,HT2.out.bel⟩
theorem zhp (s:Nat→Int) (hok:zap s) (v:Value) (n:Nat) (x:Nat→RecD) (hi:Nat) (w:World) (h:(zab.slice 85).rd w hi (n,x) [v]) (hhi:hi≤w.heap.size) (hn:n≤1048576) (hkd:∀ i,i<n→InP (x i).kind 1 4) {i:Nat} (hi':i<n) :
 Calls Tryz.prog 71 #[zal s,v,.int .i64 i] w (zba (SptP s x n i) w):=by
 obtain ⟨q1,q2⟩:=hkd i hi'
 have hc:(x i).kind=1∨(x i).kind=2∨(x i).kind=3∨(x i).kind=4:=by omega
 rcases hc with hk | hk | hk | hk
 ·exact zge s hok v n x hi w h hhi hn hi' hk
 ·exact zgf s hok v n x hi w h hhi hn hi' hk
 ·exact zgg s hok v n x hi w h hhi hn hi' hk
 ·exact zfZ s hok v n x hi w h hhi hn hi' hk
set_option maxRecDepth 100000 in
theorem zjD (s:Nat→Int) (hok:zap s) (v:Value) (n:Nat) (x:Nat→RecD) (hi:Nat) (w:World) (h:(zab.slice 85).rd w hi (n,x) [v]) (hhi:hi≤w.heap.size) (hn:n≤1048576) (hkd:∀ i,i<n→InP (x i).kind 1 4) :
 Calls Tryz.prog 40 #[zal s,v] w (fun e w'=>∃ u cu,e=.returned u∧View zab 85 w' (w.heap.size+1) hi u (zbU (spa s x n) n).length (fun i=>x (zck (spa s x n) n i)) cu∧(zab.slice 85).rd w' w'.heap.size ((zbU (spa s x n) n).length,fun i=>x (zck (spa s x n) n i)) [u]∧Below w.heap.size w w'):=by
 obtain ⟨ao,cap,e,hmm,hc⟩:=id h
 obtain rfl:v=.slice ao n cap:=by simpa using e
 have HRD:=hid h;have HOK:=hid hok;have HKD:=hid hkd;have HC:=hid hc;have B0:=zaK w (rwS s).toArray 30
 have V0:View zab 85 ((w.alloc (.cells (rwS s).toArray 30)).alloc (.cells #[] 85)) (w.heap.size+1) hi (.slice (some ⟨w.heap.size+1,0,none⟩) 0 0) 0 (fun i=>x (zck (spa s x n) n i)) (fun _=>[]):=by
  have:=View.lit0 (E:=zab) (t:=85) (fun i=>x (zck (spa s x n) n i)) (fun _=>[]) (w.alloc (.cells (rwS s).toArray 30)) hi;rw [show (w.alloc (.cells (rwS s).toArray 30)).heap.size=w.heap.size+1 from by unfold World.alloc;exact Array.size_push _] at this;exact this
 have bE:Below (w.alloc (.cells (rwS s).toArray 30)).heap.size (w.alloc (.cells (rwS s).toArray 30)) ((w.alloc (.cells (rwS s).toArray 30)).alloc (.cells #[] 85)):=(Below.refl _ _).alloc (Nat.le_refl _) _;have HB0:=hid (B0.call bE);have HV0:=hid V0;unfold zal;clear e hmm hc h B0 V0 bE hok hkd
 go_enter Tryz.func40,Tryz.ntmps40
 go_wp2
 go_loopw [5,6] (fun vo z wr=>∃ (i:Nat) (cu:Nat→List Value),i≤n∧z=.int .i64 i∧View zab 85 wr (w.heap.size+1) hi vo (zbU (spa s x n) i).length (fun i=>x (zck (spa s x n) n i)) cu∧Box wr w.heap.size (rwS s).toArray 30∧Below w.heap.size w wr) (fun _ z _=>n-(intOf z).toNat)
 case atStart=>exact ⟨0,fun _=>[],Nat.zero_le _,rfl,HV0.out,HB0.out.b1,HB0.out.bel⟩
 case round=>
  clear HV0 HB0;obtain ⟨i,cu,hk,rfl,hV,hS,hbl⟩:=hrel;obtain ⟨c,hc⟩:∃ c,c=(zbU (spa s x n) i).length:=⟨_,rfl⟩;have HC0:=hid hc;rw [← hc] at hV
  have hck:c≤i:=by rw [hc];exact zhf _ _
  obtain ⟨au,cau,hu⟩:=hV.form;subst hu;have HV:=hid hV;have HB:=hid hbl;have HS:=hid hS;have zr:w.heap.size<wr.heap.size:=hS.lt;clear hV hS hc
  by_cases hlt:i<n
  ·obtain ⟨b,off,rfl,hbh,hel⟩:=HC.out (by omega)
   have HEL:=hid hel;obtain ⟨cep,hyp,hcellp⟩:=zat (t:=85) hel hbl hhi hbh hlt;obtain ⟨ao6,cap6,ao7,cap7,ao8,cap8,rfl,-,-,-,-⟩:=zaD hyp;obtain ⟨r,hr⟩:∃ r,r=x i:=⟨_,rfl⟩;have Hr:=hid hr;rw [← hr] at hcellp
   have p0:wr.cell? ⟨b,off+i*9,none⟩=some (.int .i64 r.kind):=by have:=hcellp 0 (by decide);exact this
   have p1:wr.cell? ⟨b,off+i*9+1,none⟩=some (.int .i64 r.seq):=by have:=hcellp 1 (by decide);exact this
   clear hyp hcellp hr;have pk1:=cell_regrown p1
   have i1:(0:Int)≤(i:Int):=by omega
   have i2:(i:Int)<(n:Int):=by omega
   obtain ⟨tq,htq⟩:∃ tq,tq=zdo n x:=⟨_,rfl⟩;have HTQ:=hid htq;have cT:=zaP (W:=wr) (fun w' hb'=>(zl2 (.slice (some ⟨b,off,none⟩) n cap) n x hi w' (Lay.rd_below _ HRD.out (HB.out.trans (hb'.mono (by omega))) hhi) (by omega)).mono (fun e w'' h=>(show e=.returned (.int .i64 tq)∧Below w'.heap.size w' w'' from ⟨by rw [htq];exact h.1,by rw [h.2];exact Below.refl _ _⟩)));clear hbl hel htq
   go_upto_region 5 with fail
   refine WQ.region (by kernel_rfl) (by kernel_rfl) ?_
   repeat (first | (apply WQ.skip;(case hw=>rfl);intro K hK;go_simp;apply hK;clear hK K) | (apply WQ.want;(case hw=>rfl);intro K hK;go_simp;first | (apply hK;clear hK K) | (apply Exists.intro;apply And.intro;(case left=>intro p;(first | (go_at_call 70;exact cT _ _)));apply hK;clear hK K)))
   refine WQ.nil ?_;intro w5 hw5;have b5:=zaF hw5;have HV5:Hid (View zab 85 w5 (w.heap.size+1) hi (.slice au c cau) c (fun i=>x (zck (spa s x n) n i)) cu):=HV.out.below b5 (by omega);have HS5:Hid (Box w5 w.heap.size (rwS s).toArray 30):=HS.out.below b5 (by omega);have HB5:Hid (Below w.heap.size w w5):=HB.out.trans (b5.mono (by omega));have z5:w.heap.size<w5.heap.size:=HS5.out.lt;obtain ⟨a0,ha0⟩:∃ a0,a0=decide (r.seq<tq):=⟨_,rfl⟩
   have HA0:Hid (a0=true↔((x i).seq<zdo n x∧∀ t,t<0→(x t).kind=(x i).kind→(x t).seq=(x i).seq→SptP s x n t)):=by
    show a0=true↔((x i).seq<zdo n x∧∀ t,t<0→(x t).kind=(x i).kind→(x t).seq=(x i).seq→SptP s x n t)
    rw [ha0,decide_eq_true_iff,Hr.out,HTQ.out];exact ⟨fun h=>⟨h,fun t ht=>by omega⟩,fun h=>h.1⟩
   clear hw5 b5 cT p0 p1 pk1 HV HS HB
   try rw [← ha0]
   go_wp2
   go_loopw [7,8] (fun ta z wr=>∃ (k:Nat) (a:Bool),k≤n∧ta=.bool a∧z=.int .i64 k∧(a=true↔((x i).seq<zdo n x∧∀ t,t<k→(x t).kind=(x i).kind→(x t).seq=(x i).seq→SptP s x n t))∧View zab 85 wr (w.heap.size+1) hi (.slice au c cau) c (fun i=>x (zck (spa s x n) n i)) cu∧Box wr w.heap.size (rwS s).toArray 30∧Below w.heap.size w wr) (fun _ z _=>n-(intOf z).toNat)
   case atStart=>exact ⟨0,a0,Nat.zero_le _,by first | rfl | (rw [ha0]),rfl,HA0.out,HV5.out,HS5.out,HB5.out⟩
   case round=>
    clear HV5 HS5 HB5 HA0 ha0 z5;obtain ⟨k,a,hk',rfl,rfl,ha,hV,hS,hbl⟩:=hrel;obtain ⟨wx,rfl⟩:∃ y,y=wr:=⟨_,rfl⟩;have HTT:=hid ha;have HV6:=hid hV;have HS6:=hid hS;have HB6:=hid hbl;have z6:w.heap.size<wx.heap.size:=hS.lt;clear ha hV hS
    by_cases hlt2:k<n
    ·cases a with
     | false=>
      have HU:Hid (spa s x n i=false):=zl4 (fun h=>by have:=HTT.out.2 ⟨h.1,fun t ht=>h.2 t (by omega)⟩;cases this);clear hbl;go_wp2
      go_roundw
      case rel=>exact ⟨i+1,cu,by omega,by go_num,by rw [zij HU.out,← HC0.out];exact HV6.out,HS6.out,HB6.out⟩
      case measure=>simp [intOf];omega
     | true=>
      obtain ⟨ceq,hyq,hcellq⟩:=zat (t:=85) HEL.out hbl hhi hbh hlt2;obtain ⟨bo6,bap6,bo7,bap7,bo8,bap8,rfl,-,-,-,-⟩:=zaD hyq;obtain ⟨q,hq⟩:∃ q,q=x k:=⟨_,rfl⟩;have Hq:=hid hq;rw [← hq] at hcellq
      have y0:wx.cell? ⟨b,off+k*9,none⟩=some (.int .i64 q.kind):=by have:=hcellq 0 (by decide);exact this
      have y1:wx.cell? ⟨b,off+k*9+1,none⟩=some (.int .i64 q.seq):=by have:=hcellq 1 (by decide);exact this
      obtain ⟨cer,hyr,hcellr⟩:=zat (t:=85) HEL.out hbl hhi hbh hlt;obtain ⟨co6,cap6',co7,cap7',co8,cap8',rfl,-,-,-,-⟩:=zaD hyr;rw [← Hr.out] at hcellr
      have p0:wx.cell? ⟨b,off+i*9,none⟩=some (.int .i64 r.kind):=by have:=hcellr 0 (by decide);exact this
      have p1:wx.cell? ⟨b,off+i*9+1,none⟩=some (.int .i64 r.seq):=by have:=hcellr 1 (by decide);exact this
      clear hyq hcellq hyr hcellr hq hbl;have yk0:=cell_regrown y0;have yk1:=cell_regrown y1;have pk0:=cell_regrown p0;have pk1:=cell_regrown p1
      have i3:(0:Int)≤(k:Int):=by omega
      have i4:(k:Int)<(n:Int):=by omega
      by_cases c1:q.kind=r.kind
      ·have c1d:(q.kind==r.kind)=true:=by simp [c1]
       have Hc1:=hid c1;clear c1
       by_cases c2:q.seq=r.seq
       ·have c2d:(q.seq==r.seq)=true:=by simp [c2]
        have Hc2:=hid c2;clear c2
        go_upto_region 9 with fail
        refine WQ.region (by kernel_rfl) (by kernel_rfl) ?_
        repeat (first | (apply WQ.skip;(case hw=>rfl);intro K hK;go_simp;apply hK;clear hK K) | (apply WQ.want;(case hw=>rfl);intro K hK;go_simp;first | (apply hK;clear hK K) | (apply Exists.intro;apply And.intro;(case left=>intro p;(first | fail));apply hK;clear hK K)))
        refine WQ.nil ?_;intro w7 hw7;have b7:=zaF hw7;have HV7:Hid (View zab 85 w7 (w.heap.size+1) hi (.slice au c cau) c (fun i=>x (zck (spa s x n) n i)) cu):=HV6.out.below b7 (by omega);have HS7:Hid (Box w7 w.heap.size (rwS s).toArray 30):=HS6.out.below b7 (by omega);have HB7:Hid (Below w.heap.size w w7):=HB6.out.trans (b7.mono (by omega));have z7:w.heap.size<w7.heap.size:=HS7.out.lt;clear hw7 b7 y0 y1 yk0 yk1 p0 p1 pk0 pk1;obtain ⟨td,htd⟩:=exB (SptP s x n k);have HTD:=hid htd;have CS:=zbv (zhp s HOK.out (.slice (some ⟨b,off,none⟩) n cap) n x hi w7 (Lay.rd_below _ HRD.out HB7.out hhi) (by omega) hn HKD.out hlt2) htd;unfold zal at CS;have s_0:w7.cell? ⟨w.heap.size,0,none⟩=some (.int .i64 (s 0)):=HS7.out.cell 0;have s_1:w7.cell? ⟨w.heap.size,1,none⟩=some (.int .i64 (s 1)):=HS7.out.cell 1;have s_2:w7.cell? ⟨w.heap.size,2,none⟩=some (.int .i64 (s 2)):=HS7.out.cell 2;have s_3:w7.cell? ⟨w.heap.size,3,none⟩=some (.int .i64 (s 3)):=HS7.out.cell 3;have s_4:w7.cell? ⟨w.heap.size,4,none⟩=some (.int .i64 (s 4)):=HS7.out.cell 4;have s_5:w7.cell? ⟨w.heap.size,5,none⟩=some (.int .i64 (s 5)):=HS7.out.cell 5;have s_6:w7.cell? ⟨w.heap.size,6,none⟩=some (.int .i64 (s 6)):=HS7.out.cell 6;have s_7:w7.cell? ⟨w.heap.size,7,none⟩=some (.int .i64 (s 7)):=HS7.out.cell 7;have s_8:w7.cell? ⟨w.heap.size,8,none⟩=some (.int .i64 (s 8)):=HS7.out.cell 8;clear htd
        go_wp2_with fail
        refine CS.mono ?_;rintro e w8 ⟨rfl,b8⟩;have HV8:Hid (View zab 85 w8 (w.heap.size+1) hi (.slice au c cau) c (fun i=>x (zck (spa s x n) n i)) cu):=HV7.out.below b8 (by omega);have HS8:Hid (Box w8 w.heap.size (rwS s).toArray 30):=HS7.out.below b8 (by omega);have HB8:Hid (Below w.heap.size w w8):=HB7.out.trans (b8.mono (by omega));clear CS b8 s_0 s_1 s_2 s_3 s_4 s_5 s_6 s_7 s_8;go_wp2
        go_roundw
        case rel=>exact ⟨k+1,td,by omega,rfl,by go_num,⟨fun h=>⟨(HTT.out.1 (by simp)).1,fun t ht e1 e2=>(by
         by_cases c:t=k
         ·subst c;exact HTD.out.1 h
         ·exact (HTT.out.1 (by simp)).2 t (by omega) e1 e2)⟩,fun h=>HTD.out.2 (h.2 k (by omega) (by rw [← Hq.out,← Hr.out];exact Hc1.out) (by rw [← Hq.out,← Hr.out];exact Hc2.out))⟩,HV8.out,HS8.out,HB8.out⟩
        case measure=>simp [intOf];omega
       ·have c2d:(q.seq==r.seq)=false:=by simp [c2]
        have Hc2:=hid c2;clear c2
        go_upto_region 9 with fail
        refine WQ.region (by kernel_rfl) (by kernel_rfl) ?_
        repeat (first | (apply WQ.skip;(case hw=>rfl);intro K hK;go_simp;apply hK;clear hK K) | (apply WQ.want;(case hw=>rfl);intro K hK;go_simp;first | (apply hK;clear hK K) | (apply Exists.intro;apply And.intro;(case left=>intro p;(first | fail));apply hK;clear hK K)))
        refine WQ.nil ?_;intro w7 hw7;have b7:=zaF hw7;have HV7:Hid (View zab 85 w7 (w.heap.size+1) hi (.slice au c cau) c (fun i=>x (zck (spa s x n) n i)) cu):=HV6.out.below b7 (by omega);have HS7:Hid (Box w7 w.heap.size (rwS s).toArray 30):=HS6.out.below b7 (by omega);have HB7:Hid (Below w.heap.size w w7):=HB6.out.trans (b7.mono (by omega));clear hw7 b7 y0 y1 yk0 yk1 p0 p1 pk0 pk1;go_wp2
        go_roundw
        case rel=>exact ⟨k+1,true,by omega,rfl,by go_num,⟨fun _=>⟨(HTT.out.1 (by simp)).1,fun t ht e1 e2=>(by
         by_cases c:t=k
         ·subst c;exact absurd (by rw [Hq.out,Hr.out];exact e2) Hc2.out
         ·exact (HTT.out.1 (by simp)).2 t (by omega) e1 e2)⟩,fun _=>rfl⟩,HV7.out,HS7.out,HB7.out⟩
        case measure=>simp [intOf];omega
      ·have c1d:(q.kind==r.kind)=false:=by simp [c1]
       have Hc1:=hid c1;clear c1
       go_upto_region 9 with fail
       refine WQ.region (by kernel_rfl) (by kernel_rfl) ?_
       repeat (first | (apply WQ.skip;(case hw=>rfl);intro K hK;go_simp;apply hK;clear hK K) | (apply WQ.want;(case hw=>rfl);intro K hK;go_simp;first | (apply hK;clear hK K) | (apply Exists.intro;apply And.intro;(case left=>intro p;(first | fail));apply hK;clear hK K)))
       refine WQ.nil ?_;intro w7 hw7;have b7:=zaF hw7;have HV7:Hid (View zab 85 w7 (w.heap.size+1) hi (.slice au c cau) c (fun i=>x (zck (spa s x n) n i)) cu):=HV6.out.below b7 (by omega);have HS7:Hid (Box w7 w.heap.size (rwS s).toArray 30):=HS6.out.below b7 (by omega);have HB7:Hid (Below w.heap.size w w7):=HB6.out.trans (b7.mono (by omega));clear hw7 b7 y0 y1 yk0 yk1 p0 p1 pk0 pk1;go_wp2
       go_roundw
       case rel=>exact ⟨k+1,true,by omega,rfl,by go_num,⟨fun _=>⟨(HTT.out.1 (by simp)).1,fun t ht e1 e2=>(by
        by_cases c:t=k
        ·subst c;exact absurd (by rw [Hq.out,Hr.out];exact e1) Hc1.out
        ·exact (HTT.out.1 (by simp)).2 t (by omega) e1 e2)⟩,fun _=>rfl⟩,HV7.out,HS7.out,HB7.out⟩
       case measure=>simp [intOf];omega
    ·obtain rfl:k=n:=by omega
     cases a with
     | false=>
      have HU:Hid (spa s x k i=false):=zl4 (fun h=>by have:=HTT.out.2 ⟨h.1,fun t ht=>h.2 t (by omega)⟩;cases this);clear hbl;go_wp2
      go_roundw
      case rel=>exact ⟨i+1,cu,by omega,by go_num,by rw [zij HU.out,← HC0.out];exact HV6.out,HS6.out,HB6.out⟩
      case measure=>simp [intOf];omega
     | true=>
      have HU:Hid (spa s x k i=true):=(zl3 s x k i).2 (HTT.out.1 (by simp));obtain ⟨cer,hyr,hcellr⟩:=zat (t:=85) HEL.out hbl hhi hbh hlt;obtain ⟨ao6,cap6,ao7,cap7,ao8,cap8,rfl,-,-,-,-⟩:=zaD hyr;rw [← Hr.out] at hcellr hyr;have HRW:=hid hyr
      have r1:wx.rangeAt b (off+i*9) (rwR r ao6 cap6 ao7 cap7 ao8 cap8):=fun j v hv=>by
       have hj:j<9:=by have e:j<((rwR r ao6 cap6 ao7 cap7 ao8 cap8):List Value).length:=(List.getElem?_eq_some_iff.1 hv).1;exact e
       have:=hcellr j hj;rw [← Nat.add_assoc] at this;exact this.trans hv
      have bA:=bAl wx (.cells (rwR r ao6 cap6 ao7 cap7 ao8 cap8).toArray 85);obtain ⟨v8,w8,hrun,V8,_,b8⟩:=zbn zcO zaT 78 (HV6.out.below bA (by omega)) 1 (zd6 (b:=wx.heap.size) (hi:=hi) (y:=r) (cs:=(rwR r ao6 cap6 ao7 cap7 ao8 cap8)) (fun j hj=>((zaq wx (rwR r ao6 cap6 ao7 cap7 ao8 cap8).toArray 85).cell j).trans (by simp)) (zab.rd_below HRW.out bA (by omega))) (by simp;omega) (by omega) (by omega) (fun e=>by cases e)
      have HE:Hid (zbU (spa s x k) (i+1)=zbU (spa s x k) i++[i]):=by
       show zbU (spa s x k) (i+1)=zbU (spa s x k) i++[i]
       rw [zc1,if_pos (show spa s x k i=true from HU.out)]
      have HV8:Hid (View zab 85 w8 (w.heap.size+1) hi v8 (c+1) (fun j=>x (zck (spa s x k) k j)) (cat2 cu c (fun _=>(rwR r ao6 cap6 ao7 cap7 ao8 cap8)))):=by
       refine V8.congr (fun j hj'=>?_)
       by_cases c1:j<c
       ·rw [zbN _ _ c1]
       ·obtain rfl:j=c:=by omega
        have e9:=zbX (fun j=>x (zck (spa s x k) k j)) j (fun _=>r) 0;rw [Nat.add_zero] at e9;rw [e9,Hr.out];have:=(zdM (p:=spa s x k) HU.out k hlt).1;rw [← HC0.out] at this;rw [this]
      have b68:Below (w.heap.size+1) wx w8:=(bA.mono (by omega)).trans b8;have HB8:Hid (Below w.heap.size w w8):=HB6.out.trans (b68.mono (by omega));have HS8:Hid (Box w8 w.heap.size (rwS s).toArray 30):=HS6.out.below b68 (by omega);clear V8 b8 bA b68 hyr hcellr hbl
      go_wp2_with (first | (refine wpList_load_mid rfl 85 (.tmp 65) rfl b (off+i*9) (by simp [Act.eval,Act.put]) (rwR r ao6 cap6 ao7 cap7 ao8 cap8) _ r1 Tryz.underlying85 rfl (zam rfl) ?_) | (at_builtin;refine zcm rfl (.tmp 62) (.tmp 67) rfl ?_ ?_ hrun ?_;(simp [Act.eval]);(simp [Act.eval])))
      clear hrun r1
      try go_wp2
      go_roundw
      case rel=>exact ⟨i+1,_,by omega,by go_num,by rw [HE.out,List.length_append,← HC0.out];exact HV8.out,HS8.out,HB8.out⟩
      case measure=>simp [intOf];omega
  ·obtain rfl:i=n:=by omega
   have HVW:=hid HV.out
   have HR:Hid ((zab.slice 85).rd wr wr.heap.size ((zbU (spa s x i) i).length,fun j=>x (zck (spa s x i) i j)) [.slice au c cau]):=by
    have:=HV.out.rd (by omega);rw [← HC0.out];exact this
   clear hbl;go_wp2;go_ret;exact ⟨_,cu,rfl,by rw [← HC0.out];exact HVW.out,HR.out,HB.out⟩
theorem drive_of' {w:World} {lo hi:Nat} {d:DriveD} {ao:Option Addr} {cap:Nat} (h:OwnT (zan.slice 76) w lo hi d.blocks [.slice ao d.blocks.1 cap]):OwnT zad w lo hi d [.bool d.wiped,.slice ao d.blocks.1 cap]:=
 OwnT.conv (OwnT.pre (A:=layB) (a:=d.wiped) (c:=[.bool d.wiped]) ⟨rfl,trivial,rfl⟩ h)
theorem tape_of' {w:World} {lo hi:Nat} {d:TapeD} {ao:Option Addr} {cap:Nat} (h:OwnT (zab.slice 85) w lo hi d.recs [.slice ao d.recs.1 cap]):OwnT zaj w lo hi d [.bool d.wiped,.slice ao d.recs.1 cap]:=
 OwnT.conv (OwnT.pre (A:=layB) (a:=d.wiped) (c:=[.bool d.wiped]) ⟨rfl,trivial,rfl⟩ h)
theorem Three.chgl3 {w wc w':World} {c1 c2 c3:Array Value} {t1 t2 t3:TypeId} (h:Three w wc c1 c2 c3 t1 t2 t3) (c3':Array Value) (hb:Box w' (w.heap.size+1+1) c3' t3) (hc:ChgL [w.heap.size+1+1] wc w'):Three w w' c1 c2 c3' t1 t2 t3:=
 ⟨h.b1.chgl hc (by simp only [List.mem_singleton];omega),h.b2.chgl hc (by simp only [List.mem_singleton];omega),hb,h.bel.trans (hc.bel (fun b hb=>by simp only [List.mem_singleton] at hb;omega) h.bel.size)⟩
theorem OwnT.chgl {α:Type} {A:Lay α} {w w':World} {lo hi:Nat} {a:α} {cs:List Value} {K:List Nat} (h:OwnT A w lo hi a cs) (hc:ChgL K w w') (hK:∀ b,b∈K→b<lo):OwnT A w' lo hi a cs:=by
 obtain ⟨M,h1,h2,h3⟩:=h;exact ⟨M,A.own_kept h1 (fun b hb=>hc.block b (A.own_lt h1 b hb) (fun hh=>by have:=hK b hh;have:=(h3 b hb).1;omega)),h2,h3⟩
set_option maxRecDepth 20000 in
theorem zmr:ToV zae zbg 17:=fun cs d hi w r hhi hn=>by
 obtain ⟨ao1,cap1,ao2,cap2,ao3,cap3,rfl,g1,g2,g3,k0,k4,k5⟩:=zaV r;clear r;unfold zbg lenD at hn
 have hnG:szSl (szSl zaA) d.groups≤1048576:=by omega
 have hnO:d.on.1≤1048576:=by omega
 have hnT:szSl za9 d.tapes≤1048576:=by omega
 clear hn;have Q0:=hid k0;have Q4:=hid k4;have Q5:=hid k5;have HG2:=hid g2;obtain ⟨_,_,e1,hm1,hc1⟩:=g1
 cases e1
 obtain ⟨_,_,e3,hm3,hc3⟩:=g3
 cases e3
 have HC1:=hid hc1;have HC3:=hid hc3;have hgn:=zcK hnG;have htn:=zcK hnT;have HNG:Hid (∀ i,i<d.groups.1→szSl zaA (d.groups.2 i)≤1048576):=fun i hi=>zbK hnG hi;have HNT:Hid (∀ i,i<d.tapes.1→za9 (d.tapes.2 i)≤1048576):=fun i hi=>zbK hnT hi;clear k0 k4 k5 g2 hc1 hc3 hnG hnT hm1 hm3;have T0:=zbQ w (rwW d ao1 cap1 ao2 cap2 ao3 cap3).toArray (rwV 0 0 0 0 0 0 0 0 0 none 0 0 none 0 0 none 0 0 0 0 false).toArray #[.int .i64 (d.shape 0),.int .i64 (d.shape 1),.int .i64 (d.shape 2),.int .i64 (d.shape 3),.int .i64 (d.shape 4),.int .i64 (d.shape 5),.int .i64 (d.shape 6),.int .i64 (d.shape 7),.int .i64 (d.shape 8),.slice none 0 0,.slice ao2 d.on.1 cap2,.slice ao3 d.tapes.1 cap3,.int .i64 d.writes,.int .i64 d.stop,.bool d.down] 34 34 34
 go_enter Tryz.func17,Tryz.ntmps17
 go_wp2
 go_loopw [4] (fun i wr=>∃ (g:Nat) (ga:Option Addr) (gc:Nat),g≤d.groups.1∧i=.int .i64 g∧Three w wr (rwW d ao1 cap1 ao2 cap2 ao3 cap3).toArray (rwV 0 0 0 0 0 0 0 0 0 none 0 0 none 0 0 none 0 0 0 0 false).toArray #[.int .i64 (d.shape 0),.int .i64 (d.shape 1),.int .i64 (d.shape 2),.int .i64 (d.shape 3),.int .i64 (d.shape 4),.int .i64 (d.shape 5),.int .i64 (d.shape 6),.int .i64 (d.shape 7),.int .i64 (d.shape 8),.slice ga g gc,.slice ao2 d.on.1 cap2,.slice ao3 d.tapes.1 cap3,.int .i64 d.writes,.int .i64 d.stop,.bool d.down] 34 34 34∧Gat (zad.slice 73) 70 wr (w.heap.size+1+1+1) (.slice ga g gc) g d.groups.2) (fun i _=>d.groups.1-(intOf i).toNat)
 case atStart=>exact ⟨0,none,0,Nat.zero_le _,rfl,T0,Gat.nil _ _ _⟩
 case round=>
  clear T0;obtain ⟨g,ga,gc,hg,rfl,T1,G1⟩:=hrel;obtain ⟨wo,rfl⟩:∃ x,x=wr:=⟨_,rfl⟩;have HT1:=hid T1;have HG1:=hid G1;have zo:w.heap.size+1+1+1≤wo.heap.size:=T1.lt;have x9:wo.cell? ⟨w.heap.size,9,none⟩=some (.slice ao1 d.groups.1 cap1):=T1.b1.cell 9
  by_cases hlg:g<d.groups.1
  ·obtain ⟨b1,off1,he1,hb1,hel1⟩:=HC1.out (by omega)
   subst he1;obtain ⟨cg,hrg,hcg⟩:=zat (t:=0) hel1 T1.bel hhi hb1 hlg;obtain ⟨ao9,cap9,rfl⟩:=zbV hrg
   have c0:wo.cell? ⟨b1,off1+g,none⟩=some (.slice ao9 (d.groups.2 g).1 cap9):=by
    have:=hcg 0 (by decide)
    have e:off1+(g*(zad.slice 73).sz+0)=off1+g:=by show off1+(g*1+0)=off1+g;omega
    rw [e] at this;exact this
   have HC0:=hid c0;have hnD:=HNG.out g hlg;have hdn:=zcK hnD;have HND:Hid (∀ i,i<(d.groups.2 g).1→zaA ((d.groups.2 g).2 i)≤1048576):=fun i hi=>zbK hnD hi;obtain ⟨_,_,e9,hm9,hc9⟩:=hrg
   cases e9
   have HC9:=hid hc9;clear hel1 hcg T1 G1 hc9 hnD hm9;go_wp2
   go_loopw [5,6] (fun v i wx=>∃ (k:Nat) (da:Option Addr) (dc:Nat),k≤(d.groups.2 g).1∧i=.int .i64 k∧v=.slice da k dc∧Gat zad 73 wx wo.heap.size (.slice da k dc) k (d.groups.2 g).2∧Below wo.heap.size wo wx) (fun _ i _=>(d.groups.2 g).1-(intOf i).toNat)
   case atStart=>exact ⟨0,_,_,Nat.zero_le _,rfl,rfl,zjV _ _,(Below.refl _ _).alloc (Nat.le_refl _) _⟩
   case round=>
    clear x9 c0;obtain ⟨k,da,dc,hk,rfl,rfl,G2,B2⟩:=hrel;obtain ⟨wx,rfl⟩:∃ x,x=wr:=⟨_,rfl⟩;have HG2':=hid G2;have HB2:=hid B2;have zx:wo.heap.size≤wx.heap.size:=B2.size;have x9:wx.cell? ⟨w.heap.size,9,none⟩=some (.slice (some ⟨b1,off1,none⟩) d.groups.1 cap1):=(HT1.out.call B2).b1.cell 9;have c0:wx.cell? ⟨b1,off1+g,none⟩=some (.slice ao9 (d.groups.2 g).1 cap9):=(B2.cell (p:=⟨b1,off1+g,none⟩) (by show b1<wo.heap.size;omega)).trans HC0.out
    by_cases hlk:k<(d.groups.2 g).1
    ·obtain ⟨b9,off9,he9,hb9,hel9⟩:=HC9.out (by omega)
     subst he9;obtain ⟨cd,hrd,hcd⟩:=zat (t:=0) hel9 B2 (by omega) hb9 hlk;obtain ⟨ao5,cap5,rfl,g5⟩:=zbF hrd;obtain ⟨D,hD⟩:∃ x,x=(d.groups.2 g).2 k:=⟨_,rfl⟩;rw [← hD] at hcd g5;have HD:=hid hD
     have hnB:szSl zaR D.blocks≤1048576:=by rw [hD];exact HND.out k hlk
     have hbn:=zcK hnB;have HNB:Hid (∀ i,i<D.blocks.1→zaR (D.blocks.2 i)≤1048576):=fun i hi=>zbK hnB hi;have c2:wx.cell? ⟨b9,off9+k*2,none⟩=some (.bool D.wiped):=hcd 0 (by decide);have c3:wx.cell? ⟨b9,off9+k*2+1,none⟩=some (.slice ao5 D.blocks.1 cap5):=hcd 1 (by decide);have HC3':=hid c3;have HC0':=hid c0;obtain ⟨_,_,e5,hm5,hc5⟩:=g5
     cases e5
     have HC5:=hid hc5;clear hel9 hcd hrd G2 B2 hD hnB hc5 hm5;go_wp2;have bA:=bAl wx (.cells #[.bool D.wiped,.slice none 0 0] 73);have XA:=zaq wx #[.bool D.wiped,.slice none 0 0] 73
     go_loopw [8] (fun i wz=>∃ (q:Nat) (ba:Option Addr) (bc:Nat),q≤D.blocks.1∧i=.int .i64 q∧Box wz wx.heap.size #[.bool D.wiped,.slice ba q bc] 73∧Gat zan 76 wz (wx.heap.size+1) (.slice ba q bc) q D.blocks.2∧Below wx.heap.size wx wz) (fun i _=>D.blocks.1-(intOf i).toNat)
     case atStart=>exact ⟨0,none,0,Nat.zero_le _,rfl,XA,Gat.nil _ _ _,bA⟩
     case round=>
      clear x9 c0 c2 c3 bA XA;obtain ⟨q,ba,bc,hq,rfl,X3,G3,B3⟩:=hrel;obtain ⟨wz,rfl⟩:∃ x,x=wr:=⟨_,rfl⟩;have HX3:=hid X3;have HG3:=hid G3;have HB3:=hid B3;have zz:wx.heap.size<wz.heap.size:=X3.lt;have x9:wz.cell? ⟨w.heap.size,9,none⟩=some (.slice (some ⟨b1,off1,none⟩) d.groups.1 cap1):=((HT1.out.call HB2.out).call B3).b1.cell 9;have c0:wz.cell? ⟨b1,off1+g,none⟩=some (.slice (some ⟨b9,off9,none⟩) (d.groups.2 g).1 cap9):=(B3.cell (p:=⟨b1,off1+g,none⟩) (by show b1<wx.heap.size;omega)).trans HC0'.out;have c3:wz.cell? ⟨b9,off9+k*2+1,none⟩=some (.slice ao5 D.blocks.1 cap5):=(B3.cell (p:=⟨b9,off9+k*2+1,none⟩) (by show b9<wx.heap.size;omega)).trans HC3'.out;have y0:wz.cell? ⟨wx.heap.size,0,none⟩=some (.bool D.wiped):=X3.cell 0;have y1:wz.cell? ⟨wx.heap.size,1,none⟩=some (.slice ba q bc):=X3.cell 1
      by_cases hlq:q<D.blocks.1
      ·obtain ⟨b5,off5,he5,hb5,hel5⟩:=HC5.out (by omega)
       subst he5;obtain ⟨cb,hrb,hcb⟩:=zat (t:=0) hel5 B3 (by omega) hb5 hlq;obtain ⟨ao0,cap0,rfl,-⟩:=zbz hrb;have s0:wz.cell? ⟨b5,off5+q*2,none⟩=some (.int .i64 (D.blocks.2 q).stamp):=hcb 0 (by decide);have s1:wz.cell? ⟨b5,off5+q*2+1,none⟩=some (.slice ao0 (D.blocks.2 q).bytes.1 cap0):=hcb 1 (by decide);have CC:=zf8 _ (D.blocks.2 q) hi wz.drew (zan.rd_below (B:=hi) hrb ⟨rfl,rfl,rfl,Nat.le_refl _,fun _ _=>rfl⟩ (Nat.le_refl _)) (show hi≤wz.heap.size by omega) (HNB.out q hlq)
       have CC:=CC.mono (R':=fun e w'=>∃ bo bcc,e=.returned (.agg #[.int .i64 (D.blocks.2 q).stamp,.slice bo (D.blocks.2 q).bytes.1 bcc])∧OwnT zan w' wz.drew.heap.size w'.heap.size (D.blocks.2 q) [.int .i64 (D.blocks.2 q).stamp,.slice bo (D.blocks.2 q).bytes.1 bcc]∧Below wz.drew.heap.size wz.drew w') (fun e w' ⟨c5,he,o5,b5'⟩=>by
        obtain ⟨bo,bcc,rfl⟩:=zd1 o5
        exact ⟨bo,bcc,he,o5,b5'⟩)
       clear hel5 hcb hrb X3 G3 B3;have KS:∀ w',Below (wx.heap.size+1) wz w'→(w'.cell? ⟨w.heap.size,9,none⟩=some (.slice (some ⟨b1,off1,none⟩) d.groups.1 cap1)∧w'.cell? ⟨b1,off1+g,none⟩=some (.slice (some ⟨b9,off9,none⟩) (d.groups.2 g).1 cap9)∧w'.cell? ⟨b9,off9+k*2+1,none⟩=some (.slice (some ⟨b5,off5,none⟩) D.blocks.1 cap5)∧w'.cell? ⟨b5,off5+q*2,none⟩=some (.int .i64 (D.blocks.2 q).stamp)∧w'.cell? ⟨b5,off5+q*2+1,none⟩=some (.slice ao0 (D.blocks.2 q).bytes.1 cap0)∧w'.cell? ⟨wx.heap.size,1,none⟩=some (.slice ba q bc)):=fun w' hb=>⟨(hb.cell (p:=⟨w.heap.size,9,none⟩) (by show w.heap.size<wx.heap.size+1;omega)).trans x9,(hb.cell (p:=⟨b1,off1+g,none⟩) (by show b1<wx.heap.size+1;omega)).trans c0,(hb.cell (p:=⟨b9,off9+k*2+1,none⟩) (by show b9<wx.heap.size+1;omega)).trans c3,(hb.cell (p:=⟨b5,off5+q*2,none⟩) (by show b5<wx.heap.size+1;omega)).trans s0,(hb.cell (p:=⟨b5,off5+q*2+1,none⟩) (by show b5<wx.heap.size+1;omega)).trans s1,(hb.cell (p:=⟨wx.heap.size,1,none⟩) (Nat.lt_succ_self _)).trans y1⟩
       have i1:(0:Int)≤(g:Int):=by omega
       have i2:(g:Int)<(d.groups.1:Int):=by omega
       have i3:(0:Int)≤(k:Int):=by omega
       have i4:(k:Int)<((d.groups.2 g).1:Int):=by omega
       have i5:(0:Int)≤(q:Int):=by omega
       have i6:(q:Int)<(D.blocks.1:Int):=by omega
       go_upto_region 14 with fail
       refine zb0 18 (fun w'=>w'.cell? ⟨w.heap.size,9,none⟩=some (.slice (some ⟨b1,off1,none⟩) d.groups.1 cap1)∧w'.cell? ⟨b1,off1+g,none⟩=some (.slice (some ⟨b9,off9,none⟩) (d.groups.2 g).1 cap9)∧w'.cell? ⟨b9,off9+k*2+1,none⟩=some (.slice (some ⟨b5,off5,none⟩) D.blocks.1 cap5)∧w'.cell? ⟨b5,off5+q*2,none⟩=some (.int .i64 (D.blocks.2 q).stamp)∧w'.cell? ⟨b5,off5+q*2+1,none⟩=some (.slice ao0 (D.blocks.2 q).bytes.1 cap0)∧w'.cell? ⟨wx.heap.size,1,none⟩=some (.slice ba q bc)) (by kernel_rfl) (KS _ ⟨rfl,rfl,rfl,Nat.le_refl _,fun _ _=>rfl⟩) (fun hHeld=>?_);refine zn6 0 rfl ?_
       try simp only [Act.put,SL]
       refine zn6 1 rfl ?_
       try simp only [Act.put,SL]
       refine zn6 2 rfl ?_
       try simp only [Act.put,SL]
       refine zn6 3 rfl ?_
       try simp only [Act.put,SL]
       refine zn6 4 rfl ?_
       try simp only [Act.put,SL]
       refine zn6 5 rfl ?_
       try simp only [Act.put,SL]
       refine zn6 6 rfl ?_
       try simp only [Act.put,SL]
       refine zn6 7 rfl ?_
       try simp only [Act.put,SL]
       refine zn6 8 rfl ?_
       try simp only [Act.put,SL]
       refine zn6 9 rfl ?_
       try simp only [Act.put,SL]
       refine zn6 10 rfl ?_
       try simp only [Act.put,SL]
       refine zn6 11 rfl ?_
       try simp only [Act.put,SL]
       refine zn6 12 rfl ?_
       try simp only [Act.put,SL]
       refine zn6 13 rfl ?_
       try simp only [Act.put,SL]
       refine zaX (i:=14) (o:=_) rfl (by kernel_rfl) (fun K hK=>?_)
       refine zbJ rfl 38 _ _ rfl #[.agg #[.int .i64 (D.blocks.2 q).stamp,.slice ao0 (D.blocks.2 q).bytes.1 cap0]] ?_ Tryz.func38 (by kernel_rfl) (by kernel_rfl) CC ?_;(simp [Act.eval,Act.put]);rintro ee w5 ⟨bo,bcc,rfl,o5,b5'⟩;have b5w:Below wz.heap.size wz w5:=⟨b5'.os,b5'.tape,b5'.output,b5'.size,b5'.block⟩;have q1:w5.cell? ⟨wx.heap.size,1,none⟩=some (.slice ba q bc):=(HX3.out.call b5w).cell 1;have q3:=(zcU w5 (.cells #[.int .i64 (D.blocks.2 q).stamp,.slice bo (D.blocks.2 q).bytes.1 bcc] 76) wx.heap.size 1 (by have:=b5w.size;omega)).trans q1;refine ⟨_,rfl,?_⟩
       refine hK.out _ _ (KS _ (b5w.mono (Nat.succ_le_of_lt zz))) (fun hHeld=>?_);clear hK K
       try simp only [Act.put,SL]
       refine zaX (i:=15) (o:=_) rfl (by kernel_rfl) (fun K hK=>?_);go_simp;refine hK.out _ _ (KS _ ((b5w.mono (Nat.succ_le_of_lt zz)).alloc (by have:=b5w.size;omega) _)) (fun hHeld=>?_);clear hK K
       try simp only [Act.put,SL]
       refine zaX (i:=16) (o:=_) rfl (by kernel_rfl) (fun K hK=>?_)
       refine zeP zgQ rfl (.tmp 55) (.tmp 69) rfl (lo:=wx.heap.size+1) (n:=q) (v:=.slice ba q bc) (x:=D.blocks.2) ?_ HG3.out b5w o5 ?_ w5.heap.size 1 ?_ (fun j _=>zcN w5 _ _ j) (by omega) (by omega) ?_;(simp [Act.eval,Act.put]);(exact (Below.refl _ _).alloc (Nat.le_refl _) _);(simp [Act.eval,Act.put]);intro v4 w4 g4 b4;obtain ⟨ba4,bc4,rfl⟩:=g4.form;have X4:=HX3.out.below b4 (Nat.lt_succ_self _);have p1:w4.cell? ⟨wx.heap.size,1,none⟩=some (.slice ba q bc):=X4.cell 1;have p2:w4.frozen? ⟨wx.heap.size,1,none⟩=false:=X4.frozen 1
       refine hK.out _ _ (KS _ b4) (fun hHeld=>?_);clear hK K
       try simp only [Act.put,SL]
       refine zaX (i:=17) (o:=_) rfl (by kernel_rfl) (fun K hK=>?_);go_simp;refine hK.out _ _ (KS _ b4) (fun hHeld=>?_);clear hK K
       try simp only [Act.put,SL]
       refine zbY (o:=_) rfl (by kernel_rfl) (fun K hK=>?_);go_simp;refine hK.out _ _ ?_;clear hK K
       try simp only [Act.put,SL]
       refine zbZ (by kernel_rfl) ?_ _;go_wp2
       go_roundw
       case rel=>exact ⟨q+1,ba4,bc4,by omega,by go_num,X4.setc 1 (.slice ba4 (q+1) bc4),(g4.set _ _ _ (Nat.lt_succ_self _)).congr (fun i _=>by rw [zcQ]),(HB3.out.trans (b4.mono (Nat.le_succ _))).setCell (Nat.le_refl _) _⟩
       case measure=>simp [intOf];omega
      ·obtain rfl:q=D.blocks.1:=by omega
       have OD:OwnT zad wz wx.heap.size wz.heap.size D [.bool D.wiped,.slice ba D.blocks.1 bc]:=drive_of' (HG3.out.own.weaken (Nat.le_succ _) (Nat.le_refl _));clear X3 G3 B3
       go_wp2_with (at_builtin;refine zeG zgR rfl (.tmp 72) (.tmp 74) rfl (lo:=wo.heap.size) (n:=k) (v:=.slice da k dc) (x:=(d.groups.2 g).2) ?_ HG2'.out HB3.out OD ?_ wz.heap.size 1 ?_ (fun j _=>zcN wz _ _ j) (by omega) (by omega) ?_;(simp [Act.eval]);(exact (Below.refl _ _).alloc (Nat.le_refl _) _);(simp [Act.eval]);intro v4 w4 g4 b4;obtain ⟨da4,dc4,rfl⟩:=g4.form)
       go_roundw
       case rel=>exact ⟨k+1,da4,dc4,by omega,by go_num,rfl,g4.congr (fun i _=>by rw [HD.out,zcQ]),HB2.out.trans b4⟩
       case measure=>simp [intOf];omega
    ·obtain rfl:k=(d.groups.2 g).1:=by omega
     have OG:OwnT (zad.slice 73) wx wo.heap.size wx.heap.size (d.groups.2 g) [.slice da (d.groups.2 g).1 dc]:=HG2'.out.own;have T2:=HT1.out.call B2;have e9:wx.cell? ⟨w.heap.size+1+1,9,none⟩=some (.slice ga g gc):=T2.b3.cell 9;have e9':=(zcU wx (.cells #[.slice da (d.groups.2 g).1 dc] 70) (w.heap.size+1+1) 9 (by omega)).trans e9;clear T2 G2 B2
     go_wp2_with (at_builtin;refine zeG zfp rfl (.tmp 77) (.tmp 79) rfl (lo:=w.heap.size+1+1+1) (n:=g) (v:=.slice ga g gc) (x:=d.groups.2) ?_ HG1.out HB2.out OG ?_ wx.heap.size 1 ?_ (fun j _=>zcN wx _ _ j) (by omega) (by omega) ?_;(simp [Act.eval]);(exact (Below.refl _ _).alloc (Nat.le_refl _) _);(simp [Act.eval]);intro v4 w4 g4 b4;obtain ⟨ga4,gc4,rfl⟩:=g4.form;have T4:=HT1.out.low b4;have p1:w4.cell? ⟨w.heap.size+1+1,9,none⟩=some (.slice ga g gc):=T4.b3.cell 9;have p2:w4.frozen? ⟨w.heap.size+1+1,9,none⟩=false:=T4.b3.frozen 9)
     go_roundw
     case rel=>exact ⟨g+1,ga4,gc4,by omega,by go_num,T4.st3 9 [.slice ga4 (g+1) gc4] rfl,(g4.set _ _ _ (by omega)).congr (fun i _=>by rw [zcQ])⟩
     case measure=>simp [intOf];omega
  ·obtain rfl:g=d.groups.1:=by omega
   have bA:=bAl wo (.cells #[] 2);have TA:=T1.call bA;obtain ⟨v',w2,hrun,o2,b2⟩:=zeU 25 (wo.alloc (.cells #[] 2)) wo.heap.size (zfx wo 2) (zao.rd_below HG2.out TA.bel hhi) (show d.on.1≤10000000 by omega);obtain ⟨oa,oc,hv⟩:=zcH o2;obtain rfl:=za2 hv;clear hv;have T2:Three w w2 (rwW d ao1 cap1 ao2 cap2 ao3 cap3).toArray (rwV 0 0 0 0 0 0 0 0 0 none 0 0 none 0 0 none 0 0 0 0 false).toArray (rwW d ga gc ao2 cap2 ao3 cap3).toArray 34 34 34:=TA.low (b2.mono zo)
   have G2:Gat (zad.slice 73) 70 w2 (w.heap.size+1+1+1) (.slice ga d.groups.1 gc) d.groups.1 d.groups.2:=by
    have h1:Below wo.heap.size wo w2:=bA.trans b2;exact G1.below h1
   have xa:(wo.alloc (.cells #[] 2)).cell? ⟨w.heap.size,10,none⟩=some (.slice ao2 d.on.1 cap2):=TA.b1.cell 10;have xb:w2.cell? ⟨w.heap.size+1+1,10,none⟩=some (.slice ao2 d.on.1 cap2):=T2.b3.cell 10;have xf:w2.frozen? ⟨w.heap.size+1+1,10,none⟩=false:=T2.b3.frozen 10;have T3:=T2.st3 10 [.slice oa d.on.1 oc] (c3':=(rwW d ga gc oa oc ao3 cap3)) rfl;have T4:Three w (stN (stN w2 (w.heap.size+1+1) 10 [.slice oa d.on.1 oc]) (w.heap.size+1+1) 11 [.slice none 0 0]) (rwW d ao1 cap1 ao2 cap2 ao3 cap3).toArray (rwV 0 0 0 0 0 0 0 0 0 none 0 0 none 0 0 none 0 0 0 0 false).toArray #[.int .i64 (d.shape 0),.int .i64 (d.shape 1),.int .i64 (d.shape 2),.int .i64 (d.shape 3),.int .i64 (d.shape 4),.int .i64 (d.shape 5),.int .i64 (d.shape 6),.int .i64 (d.shape 7),.int .i64 (d.shape 8),.slice ga d.groups.1 gc,.slice oa d.on.1 oc,.slice none 0 0,.int .i64 d.writes,.int .i64 d.stop,.bool d.down] 34 34 34:=T3.st3 11 [.slice none 0 0] (c3':=[.int .i64 (d.shape 0),.int .i64 (d.shape 1),.int .i64 (d.shape 2),.int .i64 (d.shape 3),.int .i64 (d.shape 4),.int .i64 (d.shape 5),.int .i64 (d.shape 6),.int .i64 (d.shape 7),.int .i64 (d.shape 8),.slice ga d.groups.1 gc,.slice oa d.on.1 oc,.slice none 0 0,.int .i64 d.writes,.int .i64 d.stop,.bool d.down]) rfl;have O4:=(o2.stN (w.heap.size+1+1) 10 [.slice oa d.on.1 oc] (by omega)).stN (w.heap.size+1+1) 11 [.slice none 0 0] (by omega);have G4:Gat (zad.slice 73) 70 (stN (stN w2 (w.heap.size+1+1) 10 [.slice oa d.on.1 oc]) (w.heap.size+1+1) 11 [.slice none 0 0]) (w.heap.size+1+1+1) (.slice ga d.groups.1 gc) d.groups.1 d.groups.2:=(G2.set _ 10 _ (by omega)).set _ 11 _ (by omega);have xc:(w2.setCell ⟨w.heap.size+1+1,10,none⟩ (.slice oa d.on.1 oc)).cell? ⟨w.heap.size+1+1,11,none⟩=some (.slice ao3 d.tapes.1 cap3):=T3.b3.cell 11;have xg:(w2.setCell ⟨w.heap.size+1+1,10,none⟩ (.slice oa d.on.1 oc)).frozen? ⟨w.heap.size+1+1,11,none⟩=false:=T3.b3.frozen 11;have z2:wo.heap.size≤w2.heap.size:=Nat.le_trans bA.size b2.size
   have ez:(stN (stN w2 (w.heap.size+1+1) 10 [.slice oa d.on.1 oc]) (w.heap.size+1+1) 11 [.slice none 0 0]).heap.size=w2.heap.size:=by rw [zb8,zb8]
   have GO:OwnT ((zad.slice 73).slice 70) wo (w.heap.size+1+1+1) wo.heap.size d.groups [.slice ga d.groups.1 gc]:=G1.own;have GO4:=((GO.call (bA.trans b2)).stN (w.heap.size+1+1) 10 [.slice oa d.on.1 oc] (by omega)).stN (w.heap.size+1+1) 11 [.slice none 0 0] (by omega);clear T1 TA T2 T3 G1 G2 G4 o2 b2 bA GO
   go_upto_region 19 with (at_builtin;refine zcm rfl (.tmp 82) (.tmp 84) rfl ?_ ?_ hrun ?_;(simp [Act.eval]);(simp [Act.eval]))
   obtain ⟨W4,hW4⟩:∃ x,x=stN (stN w2 (w.heap.size+1+1) 10 [.slice oa d.on.1 oc]) (w.heap.size+1+1) 11 [.slice none 0 0]:=⟨_,rfl⟩
   change Code.wp Tryz.prog _ _ _ (stN (stN w2 (w.heap.size+1+1) 10 [.slice oa d.on.1 oc]) (w.heap.size+1+1) 11 [.slice none 0 0])
   rw [← hW4] at T4 O4 GO4 ez ⊢;have HT4:=hid T4;have HO4:=hid O4;have HGO:=hid GO4;clear T4 O4 GO4 hW4 xa xb xf xc xg hrun x9;go_wp2
   go_loopw [9] (fun i wr=>∃ (t:Nat) (ta:Option Addr) (tc:Nat),t≤d.tapes.1∧i=.int .i64 t∧Box wr (w.heap.size+1+1) #[.int .i64 (d.shape 0),.int .i64 (d.shape 1),.int .i64 (d.shape 2),.int .i64 (d.shape 3),.int .i64 (d.shape 4),.int .i64 (d.shape 5),.int .i64 (d.shape 6),.int .i64 (d.shape 7),.int .i64 (d.shape 8),.slice ga d.groups.1 gc,.slice oa d.on.1 oc,.slice ta t tc,.int .i64 d.writes,.int .i64 d.stop,.bool d.down] 34∧Gat zaj 80 wr W4.heap.size (.slice ta t tc) t d.tapes.2∧ChgL [w.heap.size+1+1] W4 wr) (fun i _=>d.tapes.1-(intOf i).toNat)
   case atStart=>exact ⟨0,none,0,Nat.zero_le _,rfl,HT4.out.b3,Gat.nil _ _ _,ChgL.refl _ _⟩
   case round=>
    obtain ⟨t,ta,tc,ht,rfl,X5,G5,C5⟩:=hrel;obtain ⟨wx,rfl⟩:∃ x,x=wr:=⟨_,rfl⟩;have T5:Three w wx (rwW d ao1 cap1 ao2 cap2 ao3 cap3).toArray (rwV 0 0 0 0 0 0 0 0 0 none 0 0 none 0 0 none 0 0 0 0 false).toArray #[.int .i64 (d.shape 0),.int .i64 (d.shape 1),.int .i64 (d.shape 2),.int .i64 (d.shape 3),.int .i64 (d.shape 4),.int .i64 (d.shape 5),.int .i64 (d.shape 6),.int .i64 (d.shape 7),.int .i64 (d.shape 8),.slice ga d.groups.1 gc,.slice oa d.on.1 oc,.slice ta t tc,.int .i64 d.writes,.int .i64 d.stop,.bool d.down] 34 34 34:=HT4.out.chgl3 _ X5 C5;have HT5:=hid T5;have HG5:=hid G5;have HC5:=hid C5;have zx:W4.heap.size≤wx.heap.size:=C5.size;have x11:wx.cell? ⟨w.heap.size,11,none⟩=some (.slice ao3 d.tapes.1 cap3):=T5.b1.cell 11;have e11:wx.cell? ⟨w.heap.size+1+1,11,none⟩=some (.slice ta t tc):=T5.b3.cell 11
    by_cases hlt:t<d.tapes.1
    ·obtain ⟨b3,off3,he3,hb3,hel3⟩:=HC3.out (by omega)
     subst he3;obtain ⟨ct,hrt,hct⟩:=zat (t:=0) hel3 T5.bel hhi hb3 hlt;obtain ⟨ao7,cap7,rfl,g7⟩:=zbq hrt;have c0:wx.cell? ⟨b3,off3+t*2,none⟩=some (.bool (d.tapes.2 t).wiped):=hct 0 (by decide);have c1:wx.cell? ⟨b3,off3+t*2+1,none⟩=some (.slice ao7 (d.tapes.2 t).recs.1 cap7):=hct 1 (by decide);have HCA:=hid c0;have CC:=zg4 _ (d.tapes.2 t).recs hi wx.drew ((zab.slice 85).rd_below (B:=hi) g7 ⟨rfl,rfl,rfl,Nat.le_refl _,fun _ _=>rfl⟩ (Nat.le_refl _)) (show hi≤wx.heap.size by omega) (HNT.out t hlt)
     have CC:=CC.mono (R':=fun e w'=>∃ ra rc,e=.returned (.slice ra (d.tapes.2 t).recs.1 rc)∧OwnT (zab.slice 85) w' wx.drew.heap.size w'.heap.size (d.tapes.2 t).recs [.slice ra (d.tapes.2 t).recs.1 rc]∧Below wx.drew.heap.size wx.drew w') (fun e w' ⟨v5,he,o5,b5'⟩=>by
      obtain ⟨ra,rc,hv5⟩:=zb9 o5;obtain rfl:=za2 hv5
      exact ⟨ra,rc,he,o5,b5'⟩)
     clear hel3 hct hrt g7 X5 G5 C5 T5;have KS:∀ w',Below (w.heap.size+1+1+1) wx w'→(w'.cell? ⟨w.heap.size,11,none⟩=some (.slice (some ⟨b3,off3,none⟩) d.tapes.1 cap3)∧w'.cell? ⟨b3,off3+t*2,none⟩=some (.bool (d.tapes.2 t).wiped)∧w'.cell? ⟨b3,off3+t*2+1,none⟩=some (.slice ao7 (d.tapes.2 t).recs.1 cap7)∧w'.cell? ⟨w.heap.size+1+1,11,none⟩=some (.slice ta t tc)):=fun w' hb=>⟨(hb.cell (p:=⟨w.heap.size,11,none⟩) (by show w.heap.size<w.heap.size+1+1+1;omega)).trans x11,(hb.cell (p:=⟨b3,off3+t*2,none⟩) (by show b3<w.heap.size+1+1+1;omega)).trans c0,(hb.cell (p:=⟨b3,off3+t*2+1,none⟩) (by show b3<w.heap.size+1+1+1;omega)).trans c1,(hb.cell (p:=⟨w.heap.size+1+1,11,none⟩) (Nat.lt_succ_self _)).trans e11⟩
     have i1:(0:Int)≤(t:Int):=by omega
     have i2:(t:Int)<(d.tapes.1:Int):=by omega
     go_upto_region 22 with fail
     refine zb0 19 (fun w'=>w'.cell? ⟨w.heap.size,11,none⟩=some (.slice (some ⟨b3,off3,none⟩) d.tapes.1 cap3)∧w'.cell? ⟨b3,off3+t*2,none⟩=some (.bool (d.tapes.2 t).wiped)∧w'.cell? ⟨b3,off3+t*2+1,none⟩=some (.slice ao7 (d.tapes.2 t).recs.1 cap7)∧w'.cell? ⟨w.heap.size+1+1,11,none⟩=some (.slice ta t tc)) (by kernel_rfl) (KS _ ⟨rfl,rfl,rfl,Nat.le_refl _,fun _ _=>rfl⟩) (fun hHeld=>?_);refine zn6 0 rfl ?_
     try simp only [Act.put,SL]
     refine zn6 1 rfl ?_
     try simp only [Act.put,SL]
     refine zn6 2 rfl ?_
     try simp only [Act.put,SL]
     refine zn6 3 rfl ?_
     try simp only [Act.put,SL]
     refine zn6 4 rfl ?_
     try simp only [Act.put,SL]
     refine zn6 5 rfl ?_
     try simp only [Act.put,SL]
     refine zn6 6 rfl ?_
     try simp only [Act.put,SL]
     refine zn6 7 rfl ?_
     try simp only [Act.put,SL]
     refine zn6 8 rfl ?_
     try simp only [Act.put,SL]
     refine zn6 9 rfl ?_
     try simp only [Act.put,SL]
     refine zn6 10 rfl ?_
     try simp only [Act.put,SL]
     refine zn6 11 rfl ?_
     try simp only [Act.put,SL]
     refine zn6 12 rfl ?_
     try simp only [Act.put,SL]
     refine zn6 13 rfl ?_
     try simp only [Act.put,SL]
     refine zaX (i:=14) (o:=_) rfl (by kernel_rfl) (fun K hK=>?_)
     refine zbJ rfl 39 _ _ rfl #[.slice ao7 (d.tapes.2 t).recs.1 cap7] ?_ Tryz.func39 (by kernel_rfl) (by kernel_rfl) CC ?_;(simp [Act.eval,Act.put]);rintro ee w5 ⟨ra,rc,rfl,o5,b5'⟩;have b5w:Below wx.heap.size wx w5:=⟨b5'.os,b5'.tape,b5'.output,b5'.size,b5'.block⟩;have T6:=HT5.out.call b5w;have q1:w5.cell? ⟨w.heap.size+1+1,11,none⟩=some (.slice ta t tc):=T6.b3.cell 11;have q3:=(zcU w5 (.cells #[.bool (d.tapes.2 t).wiped,.slice ra (d.tapes.2 t).recs.1 rc] 80) (w.heap.size+1+1) 11 (by have:=b5w.size;omega)).trans q1;clear T6;refine ⟨_,rfl,?_⟩
     refine hK.out _ _ (KS _ (b5w.mono (by omega))) (fun hHeld=>?_);clear hK K
     try simp only [Act.put,SL]
     refine zn6 15 rfl ?_
     try simp only [Act.put,SL]
     refine zaX (i:=16) (o:=_) rfl (by kernel_rfl) (fun K hK=>?_);go_simp;refine hK.out _ _ (KS _ ((b5w.mono (by omega)).alloc (by have:=b5w.size;omega) _)) (fun hHeld=>?_);clear hK K
     try simp only [Act.put,SL]
     refine zaX (i:=17) (o:=_) rfl (by kernel_rfl) (fun K hK=>?_)
     refine zeP zi5 rfl (.tmp 96) (.tmp 111) rfl (lo:=W4.heap.size) (n:=t) (v:=.slice ta t tc) (x:=d.tapes.2) ?_ HG5.out b5w (tape_of' o5) ?_ w5.heap.size 1 ?_ (fun j _=>zcN w5 _ _ j) (by omega) (by omega) ?_;(simp [Act.eval,Act.put]);(exact (Below.refl _ _).alloc (Nat.le_refl _) _);(simp [Act.eval,Act.put]);intro v4 w4 g4 b4;obtain ⟨ta4,tc4,rfl⟩:=g4.form;have X4:=HT5.out.b3.below b4 (by omega);have p1:w4.cell? ⟨w.heap.size+1+1,11,none⟩=some (.slice ta t tc):=X4.cell 11;have p2:w4.frozen? ⟨w.heap.size+1+1,11,none⟩=false:=X4.frozen 11
     refine hK.out _ _ (KS _ (b4.mono (by omega))) (fun hHeld=>?_);clear hK K
     try simp only [Act.put,SL]
     refine zaX (i:=18) (o:=_) rfl (by kernel_rfl) (fun K hK=>?_);go_simp;refine hK.out _ _ (KS _ (b4.mono (by omega))) (fun hHeld=>?_);clear hK K
     try simp only [Act.put,SL]
     refine zbY (o:=_) rfl (by kernel_rfl) (fun K hK=>?_);go_simp;refine hK.out _ _ ?_;clear hK K
     try simp only [Act.put,SL]
     refine zbZ (by kernel_rfl) ?_ _;go_wp2
     go_roundw
     case rel=>exact ⟨t+1,ta4,tc4,by omega,by go_num,X4.stL [.slice ta4 (t+1) tc4] 11,(g4.set _ _ _ (by omega)).congr (fun i _=>by rw [zcQ]),(HC5.out.after b4).st (w.heap.size+1+1) 11 _ (by simp)⟩
     case measure=>simp [intOf];omega
    ·obtain rfl:t=d.tapes.1:=by omega
     clear X5 e11
     have F0:OwnT zae wx (w.heap.size+1+1+1) wx.heap.size d (rwW d ga gc oa oc ta tc):=by
      have C5':=C5;clear T5 G5 C5;have F:OwnT zae wx (w.heap.size+1+1+1) wx.heap.size d ((rwS d.shape)++([.slice ga d.groups.1 gc]++([.slice oa d.on.1 oc]++([.slice ta d.tapes.1 tc]++([.int .i64 d.writes]++([.int .i64 d.stop]++[.bool d.down])))))):=OwnT.conv (OwnT.pre (A:=(zeC 9)) (a:=d.shape) (c:=(rwS d.shape)) ⟨rfl,Q0.out,rfl⟩ (OwnT.two (HGO.out.chgl HC5.out (fun b hb=>by simp at hb;omega)) (OwnT.two (HO4.out.chgl HC5.out (fun b hb=>by simp at hb;omega)) (OwnT.two (HG5.out.own.weaken (show w2.heap.size≤W4.heap.size by omega) (Nat.le_refl _)) (OwnT.pre (A:=layI) (a:=d.writes) (c:=[.int .i64 d.writes]) ⟨rfl,Q4.out,rfl⟩ (OwnT.pre (A:=layI) (a:=d.stop) (c:=[.int .i64 d.stop]) ⟨rfl,Q5.out,rfl⟩ (OwnT.nil (A:=layB) (a:=d.down) (c:=[.bool d.down]) ⟨rfl,trivial,rfl⟩ wx.heap.size wx.heap.size))) (Nat.le_refl _) (by omega) (Nat.le_refl _)) (by omega) (by omega) (by omega)) (by omega) (by omega) (by omega)));exact F
     have HF:=hid F0;clear G5 C5
     go_wp2_with (first | (refine zav 34 (.tmp 3) rfl rfl (w.heap.size+1+1) rfl T5.b3 Tryz.underlying34 zbL rfl ?_) | (refine zbb 34 _ _ rfl rfl (w.heap.size+1) rfl (cs:=(rwW d ga gc oa oc ta tc)) rfl T5.b2 zbL rfl rfl F0.one ?_;intro w9 X9 C9 z9))
     refine zcz Tryz.results17 rfl X9 Tryz.underlying34 zbL rfl rfl ?_;refine ⟨(rwW d ga gc oa oc ta tc),rfl,?_,?_⟩
     ·exact (HF.out.chgk C9 (fun b hb=>by simp at hb;omega)).weaken (by omega) C9.size
     ·exact T5.bel.trans (C9.bel (fun b hb=>by simp at hb;omega) T5.bel.size)
end Go.Proofs.YthbpmbgfddpffaaGreat
