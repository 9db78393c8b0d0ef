/- Spent records: the specification's side. -/
import Derived.Test.YtajibninhikdgaaGreatZPspentam
set_option linter.unusedVariables false
set_option linter.unusedSimpArgs false
set_option maxHeartbeats 16000000
namespace Go.Proofs.YtajibninhikdgaaGreat
open Go.RowKit F256
set_option maxRecDepth 100000 in
theorem zf2 (s:Nat→Int) (hok:zah s) (v:Value) (n:Nat) (x:Nat→RecD) (hi:Nat) (w:World) (h:(zab.slice 83).rd w hi (n,x) [v]) (hhi:hi≤w.heap.size) (hn:n≤1048576) (r:RecD) (ao6 ao7 ao8:Option Addr) (cap6 cap7 cap8:Nat) :
 Calls Tryz.prog 91 #[zae s,v,.agg #[.int .i64 r.kind,.int .i64 r.seq,.string r.name,.int .i64 r.length,.int .i64 r.group,.int .i64 r.row,.slice ao6 r.rows.1 cap6,.slice ao7 r.data.1 cap7,.slice ao8 r.delta.1 cap8]] w (zaT (DonP x n r.seq r.group∧∀ g,s 0≤g→g<s 0+s 1→DonP x n r.seq g) w):=by
 obtain ⟨ao,cap,e,hmm,hc⟩:=id h
 obtain rfl:v=.slice ao n cap:=by simpa using e
 have HRD:=hid h;have HOK:=hid hok;have hsb:=okB hok;have T0:=zaD w (rwS s).toArray (rwR r ao6 cap6 ao7 cap7 ao8 cap8).toArray 34 83;obtain ⟨td,htd⟩:=exB (DonP x n r.seq r.group);have HTD:=hid htd;have CD:=zbb (zfv (.slice ao n cap) n x r.seq r.group hi _ (Lay.rd_below _ h T0.bel hhi) (Nat.le_trans hhi T0.bel.size) hn) htd;unfold zae;clear e hmm hc h htd hok
 go_enter Tryz.func91,Tryz.ntmps91
 go_wp2_with fail
 refine CD.mono ?_;rintro e w1 ⟨rfl,b1⟩;have HT1:=hid (T0.call b1);have s0:w1.cell? ⟨w.heap.size,0,none⟩=some (.int .i64 (s 0)):=HT1.out.b1.cell 0;clear CD b1 T0;go_wp2
 go_loopw [7,8] (fun a z wr=>∃ (k:Nat) (t:Bool),(k:Int)≤s 1∧a=.bool t∧z=.int .i64 (s 0+k)∧(t=true↔(DonP x n r.seq r.group∧∀ u:Nat,u<k→DonP x n r.seq (s 0+u)))∧Two w wr (rwS s).toArray (rwR r ao6 cap6 ao7 cap7 ao8 cap8).toArray 34 83) (fun _ z _=>(s 0+s 1-intOf z).toNat)
 case atStart=>exact ⟨0,td,by omega,rfl,by simp,HTD.out.trans ⟨fun h=>⟨h,fun u hu=>by omega⟩,fun h=>h.1⟩,HT1.out⟩
 case round=>
  clear s0 HT1;obtain ⟨k,t,hk,rfl,rfl,ht,hT⟩:=hrel;obtain ⟨wx,rfl⟩:∃ y,y=wr:=⟨_,rfl⟩;have HTT:=hid ht;have HT2:=hid hT;have CL:=zbI s HOK.out wx;unfold zae at CL;have x_0:wx.cell? ⟨w.heap.size,0,none⟩=some (.int .i64 (s 0)):=HT2.out.b1.cell 0;have x_1:wx.cell? ⟨w.heap.size,1,none⟩=some (.int .i64 (s 1)):=HT2.out.b1.cell 1;have x_2:wx.cell? ⟨w.heap.size,2,none⟩=some (.int .i64 (s 2)):=HT2.out.b1.cell 2;have x_3:wx.cell? ⟨w.heap.size,3,none⟩=some (.int .i64 (s 3)):=HT2.out.b1.cell 3;have x_4:wx.cell? ⟨w.heap.size,4,none⟩=some (.int .i64 (s 4)):=HT2.out.b1.cell 4;have x_5:wx.cell? ⟨w.heap.size,5,none⟩=some (.int .i64 (s 5)):=HT2.out.b1.cell 5;have x_6:wx.cell? ⟨w.heap.size,6,none⟩=some (.int .i64 (s 6)):=HT2.out.b1.cell 6;have x_7:wx.cell? ⟨w.heap.size,7,none⟩=some (.int .i64 (s 7)):=HT2.out.b1.cell 7;have x_8:wx.cell? ⟨w.heap.size,8,none⟩=some (.int .i64 (s 8)):=HT2.out.b1.cell 8;clear ht hT
  by_cases hlt:(k:Int)<s 1
  ·have t1:s 0+(k:Int)<s 0+s 1:=by omega
   have zi:IntKind.i64.wrap (s 0+(k:Int)+1)=s 0+((k+1:Nat):Int):=by rw [IntKind.wrap_i64];omega
   go_wp2_with fail
   refine CL.mono ?_;rintro e w5 ⟨rfl,b5⟩;have HT5:=hid (HT2.out.call b5);have y1:w5.cell? ⟨w.heap.size+1,1,none⟩=some (.int .i64 r.seq):=HT5.out.b2.cell 1;clear CL b5 x_0 x_1 x_2 x_3 x_4 x_5 x_6 x_7 x_8
   cases t with
   | false=>
    go_wp2
    go_roundw
    case rel=>exact ⟨k+1,false,by omega,rfl,by first | rfl | simp [zi] | (rw [zi]),⟨(fun h=>by cases h),fun h=>absurd (HTT.out.2 ⟨h.1,fun u hu=>h.2 u (by omega)⟩) (by simp)⟩,HT5.out⟩
    case measure=>simp [intOf,zi];omega
   | true=>
    obtain ⟨te,hte⟩:=exB (DonP x n r.seq (s 0+(k:Int)));have HTE:=hid hte;have CE:=zbb (zfv (.slice ao n cap) n x r.seq (s 0+(k:Int)) hi w5 (Lay.rd_below _ HRD.out HT5.out.bel hhi) (Nat.le_trans hhi HT5.out.bel.size) hn) hte;clear hte
    go_wp2_with fail
    refine CE.mono ?_;rintro e w6 ⟨rfl,b6⟩;have HT6:=hid (HT5.out.call b6);clear CE b6 y1;go_wp2
    go_roundw
    case rel=>exact ⟨k+1,te,by omega,rfl,by first | rfl | simp [zi] | (rw [zi]),⟨fun h=>⟨(HTT.out.1 (by simp)).1,fun u hu=>by
     by_cases c:u=k
     ·subst c;exact HTE.out.1 h
     ·exact (HTT.out.1 (by simp)).2 u (by omega)⟩,fun h=>HTE.out.2 (h.2 k (by omega))⟩,HT6.out⟩
    case measure=>simp [intOf,zi];omega
  ·have t1:decide (s 0+(k:Int)<s 0+s 1)=false:=by simp;omega
   have HDN:Hid (t=true↔(DonP x n r.seq r.group∧∀ g,s 0≤g→g<s 0+s 1→DonP x n r.seq g)):=HTT.out.trans ⟨fun h=>⟨h.1,fun g h1 h2=>by
    have:=h.2 (g-s 0).toNat (by omega);rw [show s 0+((g-s 0).toNat:Int)=g by omega] at this
    exact this⟩,fun h=>⟨h.1,fun u hu=>h.2 _ (by omega) (by omega)⟩⟩
   go_wp2_with fail
   refine CL.mono ?_;rintro e w5 ⟨rfl,b5⟩;have HT5:=hid (HT2.out.call b5);clear CL b5 x_0 x_1 x_2 x_3 x_4 x_5 x_6 x_7 x_8;go_wp2;go_ret;exact ⟨t,rfl,HDN.out,HT5.out.bel⟩
set_option maxRecDepth 100000 in
theorem zfc (s:Nat→Int) (hok:zah s) (v:Value) (n:Nat) (x:Nat→RecD) (hi:Nat) (w:World) (h:(zab.slice 83).rd w hi (n,x) [v]) (hhi:hi≤w.heap.size) (hn:n≤1048576) {i:Nat} (hi':i<n) (hk:(x i).kind=1) :
 Calls Tryz.prog 48 #[zae s,v,.int .i64 i] w (zaT (SptP s x n i) w):=by
 obtain ⟨ao,cap,e,hmm,hc⟩:=id h
 obtain rfl:v=.slice ao n cap:=by simpa using e
 have HRD:Hid ((zab.slice 83).rd w hi (n,x) [.slice ao n cap]):=h;have HOK:Hid (zah s):=hok;have HC:Hid (n≠0→∃ b off,ao=some ⟨b,off,none⟩∧b<hi∧∀ i,i<n→∃ ce,zab.rd w hi (x i) ce∧∀ j,j<zab.sz→w.cell? ⟨b,off+(i*zab.sz+j),none⟩=ce[j]?):=hc;have HI:Hid (i<n):=hi';have B0:=zaE w (rwS s).toArray 34;obtain ⟨b,off,rfl,hbh,hel⟩:=HC.out (by omega);obtain ⟨ce,hy,hcell⟩:=zau (t:=83) hel B0.bel hhi hbh hi';obtain ⟨ao6,cap6,ao7,cap7,ao8,cap8,rfl,-,-,-,k0,k1,k2,k3,k4,k5⟩:=zaw hy;obtain ⟨r,hr⟩:∃ r,r=x i:=⟨_,rfl⟩;have HRR:Hid (r=x i):=hr
 have HK:Hid (r.kind=1):=by show r.kind=1;rw [hr];exact hk
 have HKX:Hid ((x i).kind=1):=hk;rw [← hr] at hcell
 have d1:(r.kind==1)=true:=by rw [HK.out];rfl
 have d2:(r.kind==2)=false:=by rw [HK.out];rfl
 have d3:(r.kind==3)=false:=by rw [HK.out];rfl
 have d4:(r.kind==4)=false:=by rw [HK.out];rfl
 have r1:(w.alloc (.cells (rwS s).toArray 34)).rangeAt b (off+i*9) (rwR r ao6 cap6 ao7 cap7 ao8 cap8):=fun j v hv=>by
  have hj:j<9:=by have e:j<((rwR r ao6 cap6 ao7 cap7 ao8 cap8):List Value).length:=(List.getElem?_eq_some_iff.1 hv).1;exact e
  have:=hcell j hj;rw [← Nat.add_assoc] at this;exact this.trans hv
 have i1:(0:Int)≤(i:Int):=by omega
 have i2:(i:Int)<(n:Int):=by omega
 have T0:=zaD w (rwS s).toArray (rwR r ao6 cap6 ao7 cap7 ao8 cap8).toArray 34 83;unfold zae;clear hcell hel hy hr hk e hmm hc h hok B0 k0 k1 k2 k3 k4 k5
 go_enter Tryz.func48,Tryz.ntmps48
 go_upto_region 2 with (refine wpList_load_mid rfl 83 (.tmp 12) rfl b (off+i*9) (by simp [Act.eval,Act.put]) (rwR r ao6 cap6 ao7 cap7 ao8 cap8) _ r1 Tryz.underlying83 rfl (zag rfl) ?_)
 obtain ⟨W2,hW2⟩:∃ y,y=(w.alloc (.cells (rwS s).toArray 34)).alloc (.cells (rwR r ao6 cap6 ao7 cap7 ao8 cap8).toArray 83):=⟨_,rfl⟩;rw [← hW2] at T0 ⊢;have HT:Hid (Two w W2 (rwS s).toArray (rwR r ao6 cap6 ao7 cap7 ao8 cap8).toArray 34 83):=T0;clear hW2 r1 i1 i2 T0;obtain ⟨a,ha⟩:∃ a,a=zb3 (itm x r.name) n:=⟨_,rfl⟩;have HA:Hid (a=zb3 (itm x r.name) n):=ha;have CN:=zgW (.slice (some ⟨b,off,none⟩) n cap) n x r.name hi W2 (Lay.rd_below _ HRD.out HT.out.bel hhi) (Nat.le_trans hhi HT.out.bel.size) hn;rw [← ha] at CN;have y_0:W2.cell? ⟨(w.heap.size+1),0,none⟩=some (.int .i64 r.kind):=HT.out.b2.cell 0;have y_1:W2.cell? ⟨(w.heap.size+1),1,none⟩=some (.int .i64 r.seq):=HT.out.b2.cell 1;have y_2:W2.cell? ⟨(w.heap.size+1),2,none⟩=some (.string r.name):=HT.out.b2.cell 2;have y_3:W2.cell? ⟨(w.heap.size+1),3,none⟩=some (.int .i64 r.length):=HT.out.b2.cell 3;have y_4:W2.cell? ⟨(w.heap.size+1),4,none⟩=some (.int .i64 r.group):=HT.out.b2.cell 4;have y_5:W2.cell? ⟨(w.heap.size+1),5,none⟩=some (.int .i64 r.row):=HT.out.b2.cell 5;have y_6:W2.cell? ⟨(w.heap.size+1),6,none⟩=some (.slice ao6 r.rows.1 cap6):=HT.out.b2.cell 6;have y_7:W2.cell? ⟨(w.heap.size+1),7,none⟩=some (.slice ao7 r.data.1 cap7):=HT.out.b2.cell 7;have y_8:W2.cell? ⟨(w.heap.size+1),8,none⟩=some (.slice ao8 r.delta.1 cap8):=HT.out.b2.cell 8;clear ha
 go_wp2_with fail
 refine CN.mono ?_;rintro e w3 ⟨rfl,b3⟩;have HT3:Hid (Two w w3 (rwS s).toArray (rwR r ao6 cap6 ao7 cap7 ao8 cap8).toArray 34 83):=HT.out.call b3;clear CN b3 y_0 y_1 y_2 y_3 y_4 y_5 y_6 y_7 y_8;go_wp2;go_ret;exact ⟨_,rfl,by rw [spt1 HKX.out,← HRR.out,← HA.out];simp,HT3.out.bel⟩
set_option maxRecDepth 100000 in
theorem zfd (s:Nat→Int) (hok:zah s) (v:Value) (n:Nat) (x:Nat→RecD) (hi:Nat) (w:World) (h:(zab.slice 83).rd w hi (n,x) [v]) (hhi:hi≤w.heap.size) (hn:n≤1048576) {i:Nat} (hi':i<n) (hk:(x i).kind=2) :
 Calls Tryz.prog 48 #[zae s,v,.int .i64 i] w (zaT (SptP s x n i) w):=by
 obtain ⟨ao,cap,e,hmm,hc⟩:=id h
 obtain rfl:v=.slice ao n cap:=by simpa using e
 have HRD:Hid ((zab.slice 83).rd w hi (n,x) [.slice ao n cap]):=h;have HOK:Hid (zah s):=hok;have HC:Hid (n≠0→∃ b off,ao=some ⟨b,off,none⟩∧b<hi∧∀ i,i<n→∃ ce,zab.rd w hi (x i) ce∧∀ j,j<zab.sz→w.cell? ⟨b,off+(i*zab.sz+j),none⟩=ce[j]?):=hc;have HI:Hid (i<n):=hi';have B0:=zaE w (rwS s).toArray 34;obtain ⟨b,off,rfl,hbh,hel⟩:=HC.out (by omega);obtain ⟨ce,hy,hcell⟩:=zau (t:=83) hel B0.bel hhi hbh hi';obtain ⟨ao6,cap6,ao7,cap7,ao8,cap8,rfl,-,-,-,k0,k1,k2,k3,k4,k5⟩:=zaw hy;obtain ⟨r,hr⟩:∃ r,r=x i:=⟨_,rfl⟩;have HRR:Hid (r=x i):=hr
 have HK:Hid (r.kind=2):=by show r.kind=2;rw [hr];exact hk
 have HKX:Hid ((x i).kind=2):=hk;rw [← hr] at hcell
 have d1:(r.kind==1)=false:=by rw [HK.out];rfl
 have d2:(r.kind==2)=true:=by rw [HK.out];rfl
 have d3:(r.kind==3)=false:=by rw [HK.out];rfl
 have d4:(r.kind==4)=false:=by rw [HK.out];rfl
 have r1:(w.alloc (.cells (rwS s).toArray 34)).rangeAt b (off+i*9) (rwR r ao6 cap6 ao7 cap7 ao8 cap8):=fun j v hv=>by
  have hj:j<9:=by have e:j<((rwR r ao6 cap6 ao7 cap7 ao8 cap8):List Value).length:=(List.getElem?_eq_some_iff.1 hv).1;exact e
  have:=hcell j hj;rw [← Nat.add_assoc] at this;exact this.trans hv
 have i1:(0:Int)≤(i:Int):=by omega
 have i2:(i:Int)<(n:Int):=by omega
 have T0:=zaD w (rwS s).toArray (rwR r ao6 cap6 ao7 cap7 ao8 cap8).toArray 34 83;unfold zae;clear hcell hel hy hr hk e hmm hc h hok B0 k0 k1 k2 k3 k4 k5
 go_enter Tryz.func48,Tryz.ntmps48
 go_upto_region 2 with (refine wpList_load_mid rfl 83 (.tmp 12) rfl b (off+i*9) (by simp [Act.eval,Act.put]) (rwR r ao6 cap6 ao7 cap7 ao8 cap8) _ r1 Tryz.underlying83 rfl (zag rfl) ?_)
 obtain ⟨W2,hW2⟩:∃ y,y=(w.alloc (.cells (rwS s).toArray 34)).alloc (.cells (rwR r ao6 cap6 ao7 cap7 ao8 cap8).toArray 83):=⟨_,rfl⟩;rw [← hW2] at T0 ⊢;have HT:Hid (Two w W2 (rwS s).toArray (rwR r ao6 cap6 ao7 cap7 ao8 cap8).toArray 34 83):=T0;clear hW2 r1 i1 i2 T0;have CS:=zf2 s HOK.out (.slice (some ⟨b,off,none⟩) n cap) n x hi W2 (Lay.rd_below _ HRD.out HT.out.bel hhi) (Nat.le_trans hhi HT.out.bel.size) hn r ao6 ao7 ao8 cap6 cap7 cap8;unfold zae at CS;have x_0:W2.cell? ⟨w.heap.size,0,none⟩=some (.int .i64 (s 0)):=HT.out.b1.cell 0;have x_1:W2.cell? ⟨w.heap.size,1,none⟩=some (.int .i64 (s 1)):=HT.out.b1.cell 1;have x_2:W2.cell? ⟨w.heap.size,2,none⟩=some (.int .i64 (s 2)):=HT.out.b1.cell 2;have x_3:W2.cell? ⟨w.heap.size,3,none⟩=some (.int .i64 (s 3)):=HT.out.b1.cell 3;have x_4:W2.cell? ⟨w.heap.size,4,none⟩=some (.int .i64 (s 4)):=HT.out.b1.cell 4;have x_5:W2.cell? ⟨w.heap.size,5,none⟩=some (.int .i64 (s 5)):=HT.out.b1.cell 5;have x_6:W2.cell? ⟨w.heap.size,6,none⟩=some (.int .i64 (s 6)):=HT.out.b1.cell 6;have x_7:W2.cell? ⟨w.heap.size,7,none⟩=some (.int .i64 (s 7)):=HT.out.b1.cell 7;have x_8:W2.cell? ⟨w.heap.size,8,none⟩=some (.int .i64 (s 8)):=HT.out.b1.cell 8;have y_0:W2.cell? ⟨(w.heap.size+1),0,none⟩=some (.int .i64 r.kind):=HT.out.b2.cell 0;have y_1:W2.cell? ⟨(w.heap.size+1),1,none⟩=some (.int .i64 r.seq):=HT.out.b2.cell 1;have y_2:W2.cell? ⟨(w.heap.size+1),2,none⟩=some (.string r.name):=HT.out.b2.cell 2;have y_3:W2.cell? ⟨(w.heap.size+1),3,none⟩=some (.int .i64 r.length):=HT.out.b2.cell 3;have y_4:W2.cell? ⟨(w.heap.size+1),4,none⟩=some (.int .i64 r.group):=HT.out.b2.cell 4;have y_5:W2.cell? ⟨(w.heap.size+1),5,none⟩=some (.int .i64 r.row):=HT.out.b2.cell 5;have y_6:W2.cell? ⟨(w.heap.size+1),6,none⟩=some (.slice ao6 r.rows.1 cap6):=HT.out.b2.cell 6;have y_7:W2.cell? ⟨(w.heap.size+1),7,none⟩=some (.slice ao7 r.data.1 cap7):=HT.out.b2.cell 7;have y_8:W2.cell? ⟨(w.heap.size+1),8,none⟩=some (.slice ao8 r.delta.1 cap8):=HT.out.b2.cell 8
 go_wp2_with fail
 refine CS.mono ?_;rintro e w3 ⟨t,rfl,ht,b3⟩;have HTT:Hid (t=true↔(DonP x n r.seq r.group∧∀ g,s 0≤g→g<s 0+s 1→DonP x n r.seq g)):=ht;have HT3:Hid (Two w w3 (rwS s).toArray (rwR r ao6 cap6 ao7 cap7 ao8 cap8).toArray 34 83):=HT.out.call b3;clear CS b3 ht x_0 x_1 x_2 x_3 x_4 x_5 x_6 x_7 x_8 y_0 y_1 y_2 y_3 y_4 y_5 y_6 y_7 y_8;go_wp2;go_ret;exact ⟨t,rfl,by rw [spt2 HKX.out,← HRR.out];exact HTT.out,HT3.out.bel⟩
set_option maxRecDepth 100000 in
theorem zfe (s:Nat→Int) (hok:zah s) (v:Value) (n:Nat) (x:Nat→RecD) (hi:Nat) (w:World) (h:(zab.slice 83).rd w hi (n,x) [v]) (hhi:hi≤w.heap.size) (hn:n≤1048576) {i:Nat} (hi':i<n) (hk:(x i).kind=3) :
 Calls Tryz.prog 48 #[zae s,v,.int .i64 i] w (zaT (SptP s x n i) w):=by
 obtain ⟨ao,cap,e,hmm,hc⟩:=id h
 obtain rfl:v=.slice ao n cap:=by simpa using e
 have HRD:Hid ((zab.slice 83).rd w hi (n,x) [.slice ao n cap]):=h;have HOK:Hid (zah s):=hok;have HC:Hid (n≠0→∃ b off,ao=some ⟨b,off,none⟩∧b<hi∧∀ i,i<n→∃ ce,zab.rd w hi (x i) ce∧∀ j,j<zab.sz→w.cell? ⟨b,off+(i*zab.sz+j),none⟩=ce[j]?):=hc;have HI:Hid (i<n):=hi';have B0:=zaE w (rwS s).toArray 34;obtain ⟨b,off,rfl,hbh,hel⟩:=HC.out (by omega);obtain ⟨ce,hy,hcell⟩:=zau (t:=83) hel B0.bel hhi hbh hi';obtain ⟨ao6,cap6,ao7,cap7,ao8,cap8,rfl,-,-,-,k0,k1,k2,k3,k4,k5⟩:=zaw hy;obtain ⟨r,hr⟩:∃ r,r=x i:=⟨_,rfl⟩;have HRR:Hid (r=x i):=hr
 have HK:Hid (r.kind=3):=by show r.kind=3;rw [hr];exact hk
 have HKX:Hid ((x i).kind=3):=hk;rw [← hr] at hcell
 have d1:(r.kind==1)=false:=by rw [HK.out];rfl
 have d2:(r.kind==2)=false:=by rw [HK.out];rfl
 have d3:(r.kind==3)=true:=by rw [HK.out];rfl
 have d4:(r.kind==4)=false:=by rw [HK.out];rfl
 have r1:(w.alloc (.cells (rwS s).toArray 34)).rangeAt b (off+i*9) (rwR r ao6 cap6 ao7 cap7 ao8 cap8):=fun j v hv=>by
  have hj:j<9:=by have e:j<((rwR r ao6 cap6 ao7 cap7 ao8 cap8):List Value).length:=(List.getElem?_eq_some_iff.1 hv).1;exact e
  have:=hcell j hj;rw [← Nat.add_assoc] at this;exact this.trans hv
 have i1:(0:Int)≤(i:Int):=by omega
 have i2:(i:Int)<(n:Int):=by omega
 have T0:=zaD w (rwS s).toArray (rwR r ao6 cap6 ao7 cap7 ao8 cap8).toArray 34 83;unfold zae;clear hcell hel hy hr hk e hmm hc h hok B0 k0 k1 k2 k3 k4 k5
 go_enter Tryz.func48,Tryz.ntmps48
 go_upto_region 2 with (refine wpList_load_mid rfl 83 (.tmp 12) rfl b (off+i*9) (by simp [Act.eval,Act.put]) (rwR r ao6 cap6 ao7 cap7 ao8 cap8) _ r1 Tryz.underlying83 rfl (zag rfl) ?_)
 obtain ⟨W2,hW2⟩:∃ y,y=(w.alloc (.cells (rwS s).toArray 34)).alloc (.cells (rwR r ao6 cap6 ao7 cap7 ao8 cap8).toArray 83):=⟨_,rfl⟩;rw [← hW2] at T0 ⊢;have HT:Hid (Two w W2 (rwS s).toArray (rwR r ao6 cap6 ao7 cap7 ao8 cap8).toArray 34 83):=T0;clear hW2 r1 i1 i2 T0;have y_0:W2.cell? ⟨w.heap.size+1,0,none⟩=some (.int .i64 r.kind):=HT.out.b2.cell 0;go_wp2
 go_loopw [8] (fun z wr=>∃ k:Nat,k≤n∧z=.int .i64 k∧(∀ t,t<k→¬ ((x t).kind=2∧(x t).seq=r.seq))∧Two w wr (rwS s).toArray (rwR r ao6 cap6 ao7 cap7 ao8 cap8).toArray 34 83) (fun z _=>n-(intOf z).toNat)
 case atStart=>exact ⟨0,Nat.zero_le _,rfl,fun t ht=>by omega,HT.out⟩
 case round=>
  clear y_0 HT;obtain ⟨k,hk,rfl,hall,hT⟩:=hrel;have HALL:Hid (∀ t,t<k→¬ ((x t).kind=2∧(x t).seq=r.seq)):=hall;have HT2:Hid (Two w wr (rwS s).toArray (rwR r ao6 cap6 ao7 cap7 ao8 cap8).toArray 34 83):=hT;have hbl:=hT.bel;have zr:w.heap.size+1<wr.heap.size:=hT.b2.lt;clear hall hT
  by_cases hlt:k<n
  ·obtain ⟨b',off',hb',hbh',hel⟩:=HC.out (by omega)
   obtain ⟨rfl,rfl⟩:b=b'∧off=off':=by simpa using hb'
   obtain ⟨ce,hy,hcell⟩:=zau (t:=83) hel hbl hhi hbh hlt;obtain ⟨bo6,bap6,bo7,bap7,bo8,bap8,rfl,-,-,-,-⟩:=zaw hy;obtain ⟨q,hq⟩:∃ q,q=x k:=⟨_,rfl⟩;have HQQ:Hid (q=x k):=hq;rw [← hq] at hcell
   have r1:wr.rangeAt b (off+k*9) (rwR q bo6 bap6 bo7 bap7 bo8 bap8):=fun j v hv=>by
    have hj:j<9:=by have e:j<((rwR q bo6 bap6 bo7 bap7 bo8 bap8):List Value).length:=(List.getElem?_eq_some_iff.1 hv).1;exact e
    have:=hcell j hj;rw [← Nat.add_assoc] at this;exact this.trans hv
   have i1:(0:Int)≤(k:Int):=by omega
   have i2:(k:Int)<(n:Int):=by omega
   clear hcell hel hy hq hbl hb'
   go_upto_region 10 with (refine wpList_load_mid rfl 83 (.tmp 38) rfl b (off+k*9) (by simp [Act.eval,Act.put]) (rwR q bo6 bap6 bo7 bap7 bo8 bap8) _ r1 Tryz.underlying83 rfl (zag rfl) ?_)
   have bA:=bAl wr (.cells (rwR q bo6 bap6 bo7 bap7 bo8 bap8).toArray 83);have X6:=zao wr (rwR q bo6 bap6 bo7 bap7 bo8 bap8).toArray 83;obtain ⟨W6,hW6⟩:∃ y,y=wr.alloc (.cells (rwR q bo6 bap6 bo7 bap7 bo8 bap8).toArray 83):=⟨_,rfl⟩;rw [← hW6] at bA X6 ⊢;have HT6:Hid (Two w W6 (rwS s).toArray (rwR r ao6 cap6 ao7 cap7 ao8 cap8).toArray 34 83):=HT2.out.call bA;have y_0:W6.cell? ⟨(w.heap.size+1),0,none⟩=some (.int .i64 r.kind):=HT6.out.b2.cell 0;have y_1:W6.cell? ⟨(w.heap.size+1),1,none⟩=some (.int .i64 r.seq):=HT6.out.b2.cell 1;have y_4:W6.cell? ⟨(w.heap.size+1),4,none⟩=some (.int .i64 r.group):=HT6.out.b2.cell 4;have y_5:W6.cell? ⟨(w.heap.size+1),5,none⟩=some (.int .i64 r.row):=HT6.out.b2.cell 5;have z_0:W6.cell? ⟨wr.heap.size,0,none⟩=some (.int .i64 q.kind):=X6.cell 0;have z_1:W6.cell? ⟨wr.heap.size,1,none⟩=some (.int .i64 q.seq):=X6.cell 1;have z_4:W6.cell? ⟨wr.heap.size,4,none⟩=some (.int .i64 q.group):=X6.cell 4;have z_5:W6.cell? ⟨wr.heap.size,5,none⟩=some (.int .i64 q.row):=X6.cell 5;clear hW6 bA X6 r1 HT2
   by_cases c1:q.kind=2
   ·have c1d:(q.kind==2)=true:=by simp [c1]
    have Hc1:Hid (q.kind=2):=c1;clear c1
    by_cases c2:q.seq=r.seq
    ·have c2d:(q.seq==r.seq)=true:=by simp [c2]
     have Hc2:Hid (q.seq=r.seq):=c2;clear c2;go_wp2;go_ret;exact ⟨false,rfl,⟨(fun h=>by cases h),fun h=>absurd (show ∃ j,j<n∧(x j).kind=2∧(x j).seq=(x i).seq from ⟨k,hlt,by rw [← HQQ.out];exact Hc1.out,by rw [← HQQ.out,← HRR.out];exact Hc2.out⟩) ((spt3 HKX.out).1 h)⟩,HT6.out.bel⟩
    ·have c2d:(q.seq==r.seq)=false:=by simp [c2]
     have Hc2:Hid (¬ q.seq=r.seq):=c2;clear c2;go_wp2
     go_roundw
     case rel=>exact ⟨k+1,by omega,by go_num,fun t ht=>(by
      by_cases c:t=k
      ·subst c;rw [← HQQ.out];exact fun h=>Hc2.out h.2
      ·exact HALL.out t (by omega)),HT6.out⟩
     case measure=>simp [intOf];omega
   ·have c1d:(q.kind==2)=false:=by simp [c1]
    have Hc1:Hid (¬ q.kind=2):=c1;clear c1;go_wp2
    go_roundw
    case rel=>exact ⟨k+1,by omega,by go_num,fun t ht=>(by
     by_cases c:t=k
     ·subst c;rw [← HQQ.out];exact fun h=>Hc1.out h.1
     ·exact HALL.out t (by omega)),HT6.out⟩
    case measure=>simp [intOf];omega
  ·obtain rfl:k=n:=by omega
   have y_0:wr.cell? ⟨w.heap.size+1,0,none⟩=some (.int .i64 r.kind):=HT2.out.b2.cell 0;clear hbl;go_wp2;go_ret;exact ⟨true,rfl,⟨fun _=>(spt3 HKX.out).2 (fun ⟨j,h1,h2⟩=>HALL.out j h1 (by rw [HRR.out];exact h2)),fun _=>rfl⟩,HT2.out.bel⟩
set_option maxRecDepth 100000 in
theorem zeZ (s:Nat→Int) (hok:zah s) (v:Value) (n:Nat) (x:Nat→RecD) (hi:Nat) (w:World) (h:(zab.slice 83).rd w hi (n,x) [v]) (hhi:hi≤w.heap.size) (hn:n≤1048576) {i:Nat} (hi':i<n) (hk:(x i).kind=4) :
 Calls Tryz.prog 48 #[zae s,v,.int .i64 i] w (zaT (SptP s x n i) w):=by
 obtain ⟨ao,cap,e,hmm,hc⟩:=id h
 obtain rfl:v=.slice ao n cap:=by simpa using e
 have HRD:Hid ((zab.slice 83).rd w hi (n,x) [.slice ao n cap]):=h;have HOK:Hid (zah s):=hok;have HC:Hid (n≠0→∃ b off,ao=some ⟨b,off,none⟩∧b<hi∧∀ i,i<n→∃ ce,zab.rd w hi (x i) ce∧∀ j,j<zab.sz→w.cell? ⟨b,off+(i*zab.sz+j),none⟩=ce[j]?):=hc;have HI:Hid (i<n):=hi';have B0:=zaE w (rwS s).toArray 34;obtain ⟨b,off,rfl,hbh,hel⟩:=HC.out (by omega);obtain ⟨ce,hy,hcell⟩:=zau (t:=83) hel B0.bel hhi hbh hi';obtain ⟨ao6,cap6,ao7,cap7,ao8,cap8,rfl,-,-,-,k0,k1,k2,k3,k4,k5⟩:=zaw hy;obtain ⟨r,hr⟩:∃ r,r=x i:=⟨_,rfl⟩;have HRR:Hid (r=x i):=hr
 have HK:Hid (r.kind=4):=by show r.kind=4;rw [hr];exact hk
 have HKX:Hid ((x i).kind=4):=hk;rw [← hr] at hcell
 have d1:(r.kind==1)=false:=by rw [HK.out];rfl
 have d2:(r.kind==2)=false:=by rw [HK.out];rfl
 have d3:(r.kind==3)=false:=by rw [HK.out];rfl
 have d4:(r.kind==4)=true:=by rw [HK.out];rfl
 have r1:(w.alloc (.cells (rwS s).toArray 34)).rangeAt b (off+i*9) (rwR r ao6 cap6 ao7 cap7 ao8 cap8):=fun j v hv=>by
  have hj:j<9:=by have e:j<((rwR r ao6 cap6 ao7 cap7 ao8 cap8):List Value).length:=(List.getElem?_eq_some_iff.1 hv).1;exact e
  have:=hcell j hj;rw [← Nat.add_assoc] at this;exact this.trans hv
 have i1:(0:Int)≤(i:Int):=by omega
 have i2:(i:Int)<(n:Int):=by omega
 have T0:=zaD w (rwS s).toArray (rwR r ao6 cap6 ao7 cap7 ao8 cap8).toArray 34 83;unfold zae;clear hcell hel hy hr hk e hmm hc h hok B0 k0 k1 k2 k3 k4 k5
 go_enter Tryz.func48,Tryz.ntmps48
 go_upto_region 2 with (refine wpList_load_mid rfl 83 (.tmp 12) rfl b (off+i*9) (by simp [Act.eval,Act.put]) (rwR r ao6 cap6 ao7 cap7 ao8 cap8) _ r1 Tryz.underlying83 rfl (zag rfl) ?_)
 obtain ⟨W2,hW2⟩:∃ y,y=(w.alloc (.cells (rwS s).toArray 34)).alloc (.cells (rwR r ao6 cap6 ao7 cap7 ao8 cap8).toArray 83):=⟨_,rfl⟩;rw [← hW2] at T0 ⊢;have HT:Hid (Two w W2 (rwS s).toArray (rwR r ao6 cap6 ao7 cap7 ao8 cap8).toArray 34 83):=T0;clear hW2 r1 i1 i2 T0;have y_0:W2.cell? ⟨w.heap.size+1,0,none⟩=some (.int .i64 r.kind):=HT.out.b2.cell 0;go_wp2
 go_loopw [8] (fun z wr=>∃ k:Nat,k≤n∧z=.int .i64 k∧(∀ t,t<k→¬ (((x t).kind=3∧(x t).seq=r.seq)∨((x t).kind=4∧(x t).group=r.group∧(x t).row=r.row∧r.seq<(x t).seq)))∧Two w wr (rwS s).toArray (rwR r ao6 cap6 ao7 cap7 ao8 cap8).toArray 34 83) (fun z _=>n-(intOf z).toNat)
 case atStart=>exact ⟨0,Nat.zero_le _,rfl,fun t ht=>by omega,HT.out⟩
 case round=>
  clear y_0 HT;obtain ⟨k,hk,rfl,hall,hT⟩:=hrel;have HALL:Hid (∀ t,t<k→¬ (((x t).kind=3∧(x t).seq=r.seq)∨((x t).kind=4∧(x t).group=r.group∧(x t).row=r.row∧r.seq<(x t).seq))):=hall;have HT2:Hid (Two w wr (rwS s).toArray (rwR r ao6 cap6 ao7 cap7 ao8 cap8).toArray 34 83):=hT;have hbl:=hT.bel;have zr:w.heap.size+1<wr.heap.size:=hT.b2.lt;clear hall hT
  by_cases hlt:k<n
  ·obtain ⟨b',off',hb',hbh',hel⟩:=HC.out (by omega)
   obtain ⟨rfl,rfl⟩:b=b'∧off=off':=by simpa using hb'
   obtain ⟨ce,hy,hcell⟩:=zau (t:=83) hel hbl hhi hbh hlt;obtain ⟨bo6,bap6,bo7,bap7,bo8,bap8,rfl,-,-,-,-⟩:=zaw hy;obtain ⟨q,hq⟩:∃ q,q=x k:=⟨_,rfl⟩;have HQQ:Hid (q=x k):=hq;rw [← hq] at hcell
   have r1:wr.rangeAt b (off+k*9) (rwR q bo6 bap6 bo7 bap7 bo8 bap8):=fun j v hv=>by
    have hj:j<9:=by have e:j<((rwR q bo6 bap6 bo7 bap7 bo8 bap8):List Value).length:=(List.getElem?_eq_some_iff.1 hv).1;exact e
    have:=hcell j hj;rw [← Nat.add_assoc] at this;exact this.trans hv
   have i1:(0:Int)≤(k:Int):=by omega
   have i2:(k:Int)<(n:Int):=by omega
   clear hcell hel hy hq hbl hb'
   go_upto_region 10 with (refine wpList_load_mid rfl 83 (.tmp 38) rfl b (off+k*9) (by simp [Act.eval,Act.put]) (rwR q bo6 bap6 bo7 bap7 bo8 bap8) _ r1 Tryz.underlying83 rfl (zag rfl) ?_)
   have bA:=bAl wr (.cells (rwR q bo6 bap6 bo7 bap7 bo8 bap8).toArray 83);have X6:=zao wr (rwR q bo6 bap6 bo7 bap7 bo8 bap8).toArray 83;obtain ⟨W6,hW6⟩:∃ y,y=wr.alloc (.cells (rwR q bo6 bap6 bo7 bap7 bo8 bap8).toArray 83):=⟨_,rfl⟩;rw [← hW6] at bA X6 ⊢;have HT6:Hid (Two w W6 (rwS s).toArray (rwR r ao6 cap6 ao7 cap7 ao8 cap8).toArray 34 83):=HT2.out.call bA;have y_0:W6.cell? ⟨(w.heap.size+1),0,none⟩=some (.int .i64 r.kind):=HT6.out.b2.cell 0;have y_1:W6.cell? ⟨(w.heap.size+1),1,none⟩=some (.int .i64 r.seq):=HT6.out.b2.cell 1;have y_4:W6.cell? ⟨(w.heap.size+1),4,none⟩=some (.int .i64 r.group):=HT6.out.b2.cell 4;have y_5:W6.cell? ⟨(w.heap.size+1),5,none⟩=some (.int .i64 r.row):=HT6.out.b2.cell 5;have z_0:W6.cell? ⟨wr.heap.size,0,none⟩=some (.int .i64 q.kind):=X6.cell 0;have z_1:W6.cell? ⟨wr.heap.size,1,none⟩=some (.int .i64 q.seq):=X6.cell 1;have z_4:W6.cell? ⟨wr.heap.size,4,none⟩=some (.int .i64 q.group):=X6.cell 4;have z_5:W6.cell? ⟨wr.heap.size,5,none⟩=some (.int .i64 q.row):=X6.cell 5;clear hW6 bA X6 r1 HT2
   by_cases c1:q.kind=3
   ·have c1d:(q.kind==3)=true:=by simp [c1]
    have Hc1:Hid (q.kind=3):=c1;clear c1
    have e4:(q.kind==4)=false:=by rw [Hc1.out];rfl
    by_cases c2:q.seq=r.seq
    ·have c2d:(q.seq==r.seq)=true:=by simp [c2]
     have Hc2:Hid (q.seq=r.seq):=c2;clear c2;go_wp2;go_ret;exact ⟨true,rfl,⟨fun _=>(spt4 HKX.out).2 ⟨k,hlt,.inl ⟨by rw [← HQQ.out];exact Hc1.out,by rw [← HQQ.out,← HRR.out];exact Hc2.out⟩⟩,fun _=>rfl⟩,HT6.out.bel⟩
    ·have c2d:(q.seq==r.seq)=false:=by simp [c2]
     have Hc2:Hid (¬ q.seq=r.seq):=c2;clear c2;go_wp2
     go_roundw
     case rel=>exact ⟨k+1,by omega,by go_num,fun t ht=>(by
      by_cases c:t=k
      ·subst c;rw [← HQQ.out];exact fun h=>h.elim (fun a=>Hc2.out a.2) (fun a=>by have:=Hc1.out;omega)
      ·exact HALL.out t (by omega)),HT6.out⟩
     case measure=>simp [intOf];omega
   ·have c1d:(q.kind==3)=false:=by simp [c1]
    have Hc1:Hid (¬ q.kind=3):=c1;clear c1
    by_cases c3:q.kind=4
    ·have c3d:(q.kind==4)=true:=by simp [c3]
     have Hc3:Hid (q.kind=4):=c3;clear c3
     by_cases c4:q.group=r.group
     ·have c4d:(q.group==r.group)=true:=by simp [c4]
      have Hc4:Hid (q.group=r.group):=c4;clear c4
      by_cases c5:q.row=r.row
      ·have c5d:(q.row==r.row)=true:=by simp [c5]
       have Hc5:Hid (q.row=r.row):=c5;clear c5
       by_cases c6:r.seq<q.seq
       ·have Hc6:Hid (r.seq<q.seq):=c6
        go_wp2;go_ret;exact ⟨true,rfl,⟨fun _=>(spt4 HKX.out).2 ⟨k,hlt,.inr (by rw [← HQQ.out,← HRR.out];exact ⟨Hc3.out,Hc4.out,Hc5.out,Hc6.out⟩)⟩,fun _=>rfl⟩,HT6.out.bel⟩
       ·have Hc6:Hid (¬ r.seq<q.seq):=c6
        have c6d:decide (r.seq<q.seq)=false:=decide_eq_false c6;clear c6;go_wp2
        go_roundw
        case rel=>exact ⟨k+1,by omega,by go_num,fun t ht=>(by
         by_cases c:t=k
         ·subst c;rw [← HQQ.out];exact fun h=>h.elim (fun a=>Hc1.out a.1) (fun a=>Hc6.out a.2.2.2)
         ·exact HALL.out t (by omega)),HT6.out⟩
        case measure=>simp [intOf];omega
      ·have c5d:(q.row==r.row)=false:=by simp [c5]
       have Hc5:Hid (¬ q.row=r.row):=c5;clear c5;go_wp2
       go_roundw
       case rel=>exact ⟨k+1,by omega,by go_num,fun t ht=>(by
        by_cases c:t=k
        ·subst c;rw [← HQQ.out];exact fun h=>h.elim (fun a=>Hc1.out a.1) (fun a=>Hc5.out a.2.2.1)
        ·exact HALL.out t (by omega)),HT6.out⟩
       case measure=>simp [intOf];omega
     ·have c4d:(q.group==r.group)=false:=by simp [c4]
      have Hc4:Hid (¬ q.group=r.group):=c4;clear c4;go_wp2
      go_roundw
      case rel=>exact ⟨k+1,by omega,by go_num,fun t ht=>(by
       by_cases c:t=k
       ·subst c;rw [← HQQ.out];exact fun h=>h.elim (fun a=>Hc1.out a.1) (fun a=>Hc4.out a.2.1)
       ·exact HALL.out t (by omega)),HT6.out⟩
      case measure=>simp [intOf];omega
    ·have c3d:(q.kind==4)=false:=by simp [c3]
     have Hc3:Hid (¬ q.kind=4):=c3;clear c3;go_wp2
     go_roundw
     case rel=>exact ⟨k+1,by omega,by go_num,fun t ht=>(by
      by_cases c:t=k
      ·subst c;rw [← HQQ.out];exact fun h=>h.elim (fun a=>Hc1.out a.1) (fun a=>Hc3.out a.1)
      ·exact HALL.out t (by omega)),HT6.out⟩
     case measure=>simp [intOf];omega
  ·obtain rfl:k=n:=by omega
   have y_0:wr.cell? ⟨w.heap.size+1,0,none⟩=some (.int .i64 r.kind):=HT2.out.b2.cell 0;clear hbl;go_wp2;go_ret;exact ⟨false,rfl,⟨(fun h=>by cases h),fun h=>(by obtain ⟨j,h1,h2⟩:=(spt4 HKX.out).1 h;rw [← HRR.out] at h2;exact absurd h2 (HALL.out j h1))⟩,HT2.out.bel⟩
theorem zf3 (s:Nat→Int) (hok:zah s) (v:Value) (n:Nat) (x:Nat→RecD) (hi:Nat) (w:World) (h:(zab.slice 83).rd w hi (n,x) [v]) (hhi:hi≤w.heap.size) (hn:n≤1048576) (hkd:∀ i,i<n→InP (x i).kind 1 4) {i:Nat} (hi':i<n) :
 Calls Tryz.prog 48 #[zae s,v,.int .i64 i] w (zaT (SptP s x n i) w):=by
 obtain ⟨q1,q2⟩:=hkd i hi'
 have hc:(x i).kind=1∨(x i).kind=2∨(x i).kind=3∨(x i).kind=4:=by omega
 rcases hc with hk | hk | hk | hk
 ·exact zfc s hok v n x hi w h hhi hn hi' hk
 ·exact zfd s hok v n x hi w h hhi hn hi' hk
 ·exact zfe s hok v n x hi w h hhi hn hi' hk
 ·exact zeZ s hok v n x hi w h hhi hn hi' hk
set_option maxRecDepth 100000 in
theorem zhR (s:Nat→Int) (hok:zah s) (v:Value) (n:Nat) (x:Nat→RecD) (hi:Nat) (w:World) (h:(zab.slice 83).rd w hi (n,x) [v]) (hhi:hi≤w.heap.size) (hn:n≤1048576) (hkd:∀ i,i<n→InP (x i).kind 1 4) :
 Calls Tryz.prog 18 #[zae s,v] w (fun e w'=>∃ u,e=.returned u∧(zab.slice 83).rd w' w'.heap.size ((zbl (spa s x n) n).length,fun i=>x (zbN (spa s x n) n i)) [u]∧Below w.heap.size w w'):=by
 obtain ⟨ao,cap,e,hmm,hc⟩:=id h
 obtain rfl:v=.slice ao n cap:=by simpa using e
 have HRD:=hid h;have HOK:=hid hok;have HKD:=hid hkd;have HC:=hid hc;have B0:=zaE w (rwS s).toArray 34
 have V0:View zab 83 ((w.alloc (.cells (rwS s).toArray 34)).alloc (.cells #[] 83)) (w.heap.size+1) hi (.slice (some ⟨w.heap.size+1,0,none⟩) 0 0) 0 (fun i=>x (zbN (spa s x n) n i)) (fun _=>[]):=by
  have:=View.lit0 (E:=zab) (t:=83) (fun i=>x (zbN (spa s x n) n i)) (fun _=>[]) (w.alloc (.cells (rwS s).toArray 34)) hi;rw [show (w.alloc (.cells (rwS s).toArray 34)).heap.size=w.heap.size+1 from by unfold World.alloc;exact Array.size_push _] at this;exact this
 have bE:Below (w.alloc (.cells (rwS s).toArray 34)).heap.size (w.alloc (.cells (rwS s).toArray 34)) ((w.alloc (.cells (rwS s).toArray 34)).alloc (.cells #[] 83)):=(Below.refl _ _).alloc (Nat.le_refl _) _;have HB0:=hid (B0.call bE);have HV0:=hid V0;unfold zae;clear e hmm hc h B0 V0 bE hok hkd
 go_enter Tryz.func18,Tryz.ntmps18
 go_wp2
 go_loopw [5,6] (fun vo z wr=>∃ (i:Nat) (cu:Nat→List Value),i≤n∧z=.int .i64 i∧View zab 83 wr (w.heap.size+1) hi vo (zbl (spa s x n) i).length (fun i=>x (zbN (spa s x n) n i)) cu∧Box wr w.heap.size (rwS s).toArray 34∧Below w.heap.size w wr) (fun _ z _=>n-(intOf z).toNat)
 case atStart=>exact ⟨0,fun _=>[],Nat.zero_le _,rfl,HV0.out,HB0.out.b1,HB0.out.bel⟩
 case round=>
  clear HV0 HB0;obtain ⟨i,cu,hk,rfl,hV,hS,hbl⟩:=hrel;obtain ⟨c,hc⟩:∃ c,c=(zbl (spa s x n) i).length:=⟨_,rfl⟩;have HC0:=hid hc;rw [← hc] at hV
  have hck:c≤i:=by rw [hc];exact zlq _ _
  obtain ⟨au,cau,hu⟩:=hV.form;subst hu;have HV:=hid hV;have HB:=hid hbl;have HS:=hid hS;have zr:w.heap.size<wr.heap.size:=hS.lt;clear hV hS hc
  by_cases hlt:i<n
  ·obtain ⟨b,off,rfl,hbh,hel⟩:=HC.out (by omega)
   have HEL:=hid hel;obtain ⟨cep,hyp,hcellp⟩:=zau (t:=83) hel hbl hhi hbh hlt;obtain ⟨ao6,cap6,ao7,cap7,ao8,cap8,rfl,-,-,-,-⟩:=zaw hyp;obtain ⟨r,hr⟩:∃ r,r=x i:=⟨_,rfl⟩;have Hr:=hid hr;rw [← hr] at hcellp
   have p0:wr.cell? ⟨b,off+i*9,none⟩=some (.int .i64 r.kind):=by have:=hcellp 0 (by decide);exact this
   have p1:wr.cell? ⟨b,off+i*9+1,none⟩=some (.int .i64 r.seq):=by have:=hcellp 1 (by decide);exact this
   clear hyp hcellp hr;have pk1:=cell_regrown p1
   have i1:(0:Int)≤(i:Int):=by omega
   have i2:(i:Int)<(n:Int):=by omega
   obtain ⟨tq,htq⟩:∃ tq,tq=zc7 n x:=⟨_,rfl⟩;have HTQ:=hid htq;have cT:=zaG (W:=wr) (fun w' hb'=>(zj9 (.slice (some ⟨b,off,none⟩) n cap) n x hi w' (Lay.rd_below _ HRD.out (HB.out.trans (hb'.mono (by omega))) hhi) (by omega)).mono (fun e w'' h=>(show e=.returned (.int .i64 tq)∧Below w'.heap.size w' w'' from ⟨by rw [htq];exact h.1,by rw [h.2];exact Below.refl _ _⟩)));clear hbl hel htq
   go_upto_region 5 with fail
   refine WQ.region (by kernel_rfl) (by kernel_rfl) ?_
   repeat (first | (apply WQ.skip;(case hw=>rfl);intro K hK;go_simp;apply hK;clear hK K) | (apply WQ.want;(case hw=>rfl);intro K hK;go_simp;first | (apply hK;clear hK K) | (apply Exists.intro;apply And.intro;(case left=>intro p;(first | (go_at_call 47;exact cT _ _)));apply hK;clear hK K)))
   refine WQ.nil ?_;intro w5 hw5;have b5:=zaB hw5;have HV5:Hid (View zab 83 w5 (w.heap.size+1) hi (.slice au c cau) c (fun i=>x (zbN (spa s x n) n i)) cu):=HV.out.below b5 (by omega);have HS5:Hid (Box w5 w.heap.size (rwS s).toArray 34):=HS.out.below b5 (by omega);have HB5:Hid (Below w.heap.size w w5):=HB.out.trans (b5.mono (by omega));have z5:w.heap.size<w5.heap.size:=HS5.out.lt;obtain ⟨a0,ha0⟩:∃ a0,a0=decide (r.seq<tq):=⟨_,rfl⟩
   have HA0:Hid (a0=true↔((x i).seq<zc7 n x∧∀ t,t<0→(x t).kind=(x i).kind→(x t).seq=(x i).seq→SptP s x n t)):=by
    show a0=true↔((x i).seq<zc7 n x∧∀ t,t<0→(x t).kind=(x i).kind→(x t).seq=(x i).seq→SptP s x n t)
    rw [ha0,decide_eq_true_iff,Hr.out,HTQ.out];exact ⟨fun h=>⟨h,fun t ht=>by omega⟩,fun h=>h.1⟩
   clear hw5 b5 cT p0 p1 pk1 HV HS HB
   try rw [← ha0]
   go_wp2
   go_loopw [7,8] (fun ta z wr=>∃ (k:Nat) (a:Bool),k≤n∧ta=.bool a∧z=.int .i64 k∧(a=true↔((x i).seq<zc7 n x∧∀ t,t<k→(x t).kind=(x i).kind→(x t).seq=(x i).seq→SptP s x n t))∧View zab 83 wr (w.heap.size+1) hi (.slice au c cau) c (fun i=>x (zbN (spa s x n) n i)) cu∧Box wr w.heap.size (rwS s).toArray 34∧Below w.heap.size w wr) (fun _ z _=>n-(intOf z).toNat)
   case atStart=>exact ⟨0,a0,Nat.zero_le _,by first | rfl | (rw [ha0]),rfl,HA0.out,HV5.out,HS5.out,HB5.out⟩
   case round=>
    clear HV5 HS5 HB5 HA0 ha0 z5;obtain ⟨k,a,hk',rfl,rfl,ha,hV,hS,hbl⟩:=hrel;obtain ⟨wx,rfl⟩:∃ y,y=wr:=⟨_,rfl⟩;have HTT:=hid ha;have HV6:=hid hV;have HS6:=hid hS;have HB6:=hid hbl;have z6:w.heap.size<wx.heap.size:=hS.lt;clear ha hV hS
    by_cases hlt2:k<n
    ·cases a with
     | false=>
      have HU:Hid (spa s x n i=false):=zkb (fun h=>by have:=HTT.out.2 ⟨h.1,fun t ht=>h.2 t (by omega)⟩;cases this);clear hbl;go_wp2
      go_roundw
      case rel=>exact ⟨i+1,cu,by omega,by go_num,by rw [zgT HU.out,← HC0.out];exact HV6.out,HS6.out,HB6.out⟩
      case measure=>simp [intOf];omega
     | true=>
      obtain ⟨ceq,hyq,hcellq⟩:=zau (t:=83) HEL.out hbl hhi hbh hlt2;obtain ⟨bo6,bap6,bo7,bap7,bo8,bap8,rfl,-,-,-,-⟩:=zaw hyq;obtain ⟨q,hq⟩:∃ q,q=x k:=⟨_,rfl⟩;have Hq:=hid hq;rw [← hq] at hcellq
      have y0:wx.cell? ⟨b,off+k*9,none⟩=some (.int .i64 q.kind):=by have:=hcellq 0 (by decide);exact this
      have y1:wx.cell? ⟨b,off+k*9+1,none⟩=some (.int .i64 q.seq):=by have:=hcellq 1 (by decide);exact this
      obtain ⟨cer,hyr,hcellr⟩:=zau (t:=83) HEL.out hbl hhi hbh hlt;obtain ⟨co6,cap6',co7,cap7',co8,cap8',rfl,-,-,-,-⟩:=zaw hyr;rw [← Hr.out] at hcellr
      have p0:wx.cell? ⟨b,off+i*9,none⟩=some (.int .i64 r.kind):=by have:=hcellr 0 (by decide);exact this
      have p1:wx.cell? ⟨b,off+i*9+1,none⟩=some (.int .i64 r.seq):=by have:=hcellr 1 (by decide);exact this
      clear hyq hcellq hyr hcellr hq hbl;have yk0:=cell_regrown y0;have yk1:=cell_regrown y1;have pk0:=cell_regrown p0;have pk1:=cell_regrown p1
      have i3:(0:Int)≤(k:Int):=by omega
      have i4:(k:Int)<(n:Int):=by omega
      by_cases c1:q.kind=r.kind
      ·have c1d:(q.kind==r.kind)=true:=by simp [c1]
       have Hc1:=hid c1;clear c1
       by_cases c2:q.seq=r.seq
       ·have c2d:(q.seq==r.seq)=true:=by simp [c2]
        have Hc2:=hid c2;clear c2
        go_upto_region 9 with fail
        refine WQ.region (by kernel_rfl) (by kernel_rfl) ?_
        repeat (first | (apply WQ.skip;(case hw=>rfl);intro K hK;go_simp;apply hK;clear hK K) | (apply WQ.want;(case hw=>rfl);intro K hK;go_simp;first | (apply hK;clear hK K) | (apply Exists.intro;apply And.intro;(case left=>intro p;(first | fail));apply hK;clear hK K)))
        refine WQ.nil ?_;intro w7 hw7;have b7:=zaB hw7;have HV7:Hid (View zab 83 w7 (w.heap.size+1) hi (.slice au c cau) c (fun i=>x (zbN (spa s x n) n i)) cu):=HV6.out.below b7 (by omega);have HS7:Hid (Box w7 w.heap.size (rwS s).toArray 34):=HS6.out.below b7 (by omega);have HB7:Hid (Below w.heap.size w w7):=HB6.out.trans (b7.mono (by omega));have z7:w.heap.size<w7.heap.size:=HS7.out.lt;clear hw7 b7 y0 y1 yk0 yk1 p0 p1 pk0 pk1;obtain ⟨td,htd⟩:=exB (SptP s x n k);have HTD:=hid htd;have CS:=zbb (zf3 s HOK.out (.slice (some ⟨b,off,none⟩) n cap) n x hi w7 (Lay.rd_below _ HRD.out HB7.out hhi) (by omega) hn HKD.out hlt2) htd;unfold zae at CS;have s_0:w7.cell? ⟨w.heap.size,0,none⟩=some (.int .i64 (s 0)):=HS7.out.cell 0;have s_1:w7.cell? ⟨w.heap.size,1,none⟩=some (.int .i64 (s 1)):=HS7.out.cell 1;have s_2:w7.cell? ⟨w.heap.size,2,none⟩=some (.int .i64 (s 2)):=HS7.out.cell 2;have s_3:w7.cell? ⟨w.heap.size,3,none⟩=some (.int .i64 (s 3)):=HS7.out.cell 3;have s_4:w7.cell? ⟨w.heap.size,4,none⟩=some (.int .i64 (s 4)):=HS7.out.cell 4;have s_5:w7.cell? ⟨w.heap.size,5,none⟩=some (.int .i64 (s 5)):=HS7.out.cell 5;have s_6:w7.cell? ⟨w.heap.size,6,none⟩=some (.int .i64 (s 6)):=HS7.out.cell 6;have s_7:w7.cell? ⟨w.heap.size,7,none⟩=some (.int .i64 (s 7)):=HS7.out.cell 7;have s_8:w7.cell? ⟨w.heap.size,8,none⟩=some (.int .i64 (s 8)):=HS7.out.cell 8;clear htd
        go_wp2_with fail
        refine CS.mono ?_;rintro e w8 ⟨rfl,b8⟩;have HV8:Hid (View zab 83 w8 (w.heap.size+1) hi (.slice au c cau) c (fun i=>x (zbN (spa s x n) n i)) cu):=HV7.out.below b8 (by omega);have HS8:Hid (Box w8 w.heap.size (rwS s).toArray 34):=HS7.out.below b8 (by omega);have HB8:Hid (Below w.heap.size w w8):=HB7.out.trans (b8.mono (by omega));clear CS b8 s_0 s_1 s_2 s_3 s_4 s_5 s_6 s_7 s_8;go_wp2
        go_roundw
        case rel=>exact ⟨k+1,td,by omega,rfl,by go_num,⟨fun h=>⟨(HTT.out.1 (by simp)).1,fun t ht e1 e2=>(by
         by_cases c:t=k
         ·subst c;exact HTD.out.1 h
         ·exact (HTT.out.1 (by simp)).2 t (by omega) e1 e2)⟩,fun h=>HTD.out.2 (h.2 k (by omega) (by rw [← Hq.out,← Hr.out];exact Hc1.out) (by rw [← Hq.out,← Hr.out];exact Hc2.out))⟩,HV8.out,HS8.out,HB8.out⟩
        case measure=>simp [intOf];omega
       ·have c2d:(q.seq==r.seq)=false:=by simp [c2]
        have Hc2:=hid c2;clear c2
        go_upto_region 9 with fail
        refine WQ.region (by kernel_rfl) (by kernel_rfl) ?_
        repeat (first | (apply WQ.skip;(case hw=>rfl);intro K hK;go_simp;apply hK;clear hK K) | (apply WQ.want;(case hw=>rfl);intro K hK;go_simp;first | (apply hK;clear hK K) | (apply Exists.intro;apply And.intro;(case left=>intro p;(first | fail));apply hK;clear hK K)))
        refine WQ.nil ?_;intro w7 hw7;have b7:=zaB hw7;have HV7:Hid (View zab 83 w7 (w.heap.size+1) hi (.slice au c cau) c (fun i=>x (zbN (spa s x n) n i)) cu):=HV6.out.below b7 (by omega);have HS7:Hid (Box w7 w.heap.size (rwS s).toArray 34):=HS6.out.below b7 (by omega);have HB7:Hid (Below w.heap.size w w7):=HB6.out.trans (b7.mono (by omega));clear hw7 b7 y0 y1 yk0 yk1 p0 p1 pk0 pk1;go_wp2
        go_roundw
        case rel=>exact ⟨k+1,true,by omega,rfl,by go_num,⟨fun _=>⟨(HTT.out.1 (by simp)).1,fun t ht e1 e2=>(by
         by_cases c:t=k
         ·subst c;exact absurd (by rw [Hq.out,Hr.out];exact e2) Hc2.out
         ·exact (HTT.out.1 (by simp)).2 t (by omega) e1 e2)⟩,fun _=>rfl⟩,HV7.out,HS7.out,HB7.out⟩
        case measure=>simp [intOf];omega
      ·have c1d:(q.kind==r.kind)=false:=by simp [c1]
       have Hc1:=hid c1;clear c1
       go_upto_region 9 with fail
       refine WQ.region (by kernel_rfl) (by kernel_rfl) ?_
       repeat (first | (apply WQ.skip;(case hw=>rfl);intro K hK;go_simp;apply hK;clear hK K) | (apply WQ.want;(case hw=>rfl);intro K hK;go_simp;first | (apply hK;clear hK K) | (apply Exists.intro;apply And.intro;(case left=>intro p;(first | fail));apply hK;clear hK K)))
       refine WQ.nil ?_;intro w7 hw7;have b7:=zaB hw7;have HV7:Hid (View zab 83 w7 (w.heap.size+1) hi (.slice au c cau) c (fun i=>x (zbN (spa s x n) n i)) cu):=HV6.out.below b7 (by omega);have HS7:Hid (Box w7 w.heap.size (rwS s).toArray 34):=HS6.out.below b7 (by omega);have HB7:Hid (Below w.heap.size w w7):=HB6.out.trans (b7.mono (by omega));clear hw7 b7 y0 y1 yk0 yk1 p0 p1 pk0 pk1;go_wp2
       go_roundw
       case rel=>exact ⟨k+1,true,by omega,rfl,by go_num,⟨fun _=>⟨(HTT.out.1 (by simp)).1,fun t ht e1 e2=>(by
        by_cases c:t=k
        ·subst c;exact absurd (by rw [Hq.out,Hr.out];exact e1) Hc1.out
        ·exact (HTT.out.1 (by simp)).2 t (by omega) e1 e2)⟩,fun _=>rfl⟩,HV7.out,HS7.out,HB7.out⟩
       case measure=>simp [intOf];omega
    ·obtain rfl:k=n:=by omega
     cases a with
     | false=>
      have HU:Hid (spa s x k i=false):=zkb (fun h=>by have:=HTT.out.2 ⟨h.1,fun t ht=>h.2 t (by omega)⟩;cases this);clear hbl;go_wp2
      go_roundw
      case rel=>exact ⟨i+1,cu,by omega,by go_num,by rw [zgT HU.out,← HC0.out];exact HV6.out,HS6.out,HB6.out⟩
      case measure=>simp [intOf];omega
     | true=>
      have HU:Hid (spa s x k i=true):=(zka s x k i).2 (HTT.out.1 (by simp));obtain ⟨cer,hyr,hcellr⟩:=zau (t:=83) HEL.out hbl hhi hbh hlt;obtain ⟨ao6,cap6,ao7,cap7,ao8,cap8,rfl,-,-,-,-⟩:=zaw hyr;rw [← Hr.out] at hcellr hyr;have HRW:=hid hyr
      have r1:wx.rangeAt b (off+i*9) (rwR r ao6 cap6 ao7 cap7 ao8 cap8):=fun j v hv=>by
       have hj:j<9:=by have e:j<((rwR r ao6 cap6 ao7 cap7 ao8 cap8):List Value).length:=(List.getElem?_eq_some_iff.1 hv).1;exact e
       have:=hcellr j hj;rw [← Nat.add_assoc] at this;exact this.trans hv
      have bA:=bAl wx (.cells (rwR r ao6 cap6 ao7 cap7 ao8 cap8).toArray 83);obtain ⟨v8,w8,hrun,V8,_,b8⟩:=za7 zcu zaM 30 (HV6.out.below bA (by omega)) 1 (zdV (b:=wx.heap.size) (hi:=hi) (y:=r) (cs:=(rwR r ao6 cap6 ao7 cap7 ao8 cap8)) (fun j hj=>((zao wx (rwR r ao6 cap6 ao7 cap7 ao8 cap8).toArray 83).cell j).trans (by simp)) (zab.rd_below HRW.out bA (by omega))) (by simp;omega) (by omega) (by omega) (fun e=>by cases e)
      have HE:Hid (zbl (spa s x k) (i+1)=zbl (spa s x k) i++[i]):=by
       show zbl (spa s x k) (i+1)=zbl (spa s x k) i++[i]
       rw [zcv,if_pos (show spa s x k i=true from HU.out)]
      have HV8:Hid (View zab 83 w8 (w.heap.size+1) hi v8 (c+1) (fun j=>x (zbN (spa s x k) k j)) (cat2 cu c (fun _=>(rwR r ao6 cap6 ao7 cap7 ao8 cap8)))):=by
       refine V8.congr (fun j hj'=>?_)
       by_cases c1:j<c
       ·rw [zbK _ _ c1]
       ·obtain rfl:j=c:=by omega
        have e9:=zbS (fun j=>x (zbN (spa s x k) k j)) j (fun _=>r) 0;rw [Nat.add_zero] at e9;rw [e9,Hr.out];have:=(zgV (p:=spa s x k) HU.out k hlt).1;rw [← HC0.out] at this;rw [this]
      have b68:Below (w.heap.size+1) wx w8:=(bA.mono (by omega)).trans b8;have HB8:Hid (Below w.heap.size w w8):=HB6.out.trans (b68.mono (by omega));have HS8:Hid (Box w8 w.heap.size (rwS s).toArray 34):=HS6.out.below b68 (by omega);clear V8 b8 bA b68 hyr hcellr hbl
      go_wp2_with (first | (refine wpList_load_mid rfl 83 (.tmp 65) rfl b (off+i*9) (by simp [Act.eval,Act.put]) (rwR r ao6 cap6 ao7 cap7 ao8 cap8) _ r1 Tryz.underlying83 rfl (zag rfl) ?_) | (at_builtin;refine zcC rfl (.tmp 62) (.tmp 67) rfl ?_ ?_ hrun ?_;(simp [Act.eval]);(simp [Act.eval])))
      clear hrun r1
      try go_wp2
      go_roundw
      case rel=>exact ⟨i+1,_,by omega,by go_num,by rw [HE.out,List.length_append,← HC0.out];exact HV8.out,HS8.out,HB8.out⟩
      case measure=>simp [intOf];omega
  ·obtain rfl:i=n:=by omega
   have HR:Hid ((zab.slice 83).rd wr wr.heap.size ((zbl (spa s x i) i).length,fun j=>x (zbN (spa s x i) i j)) [.slice au c cau]):=by
    have:=HV.out.rd (by omega);rw [← HC0.out];exact this
   clear hbl;go_wp2;go_ret;exact ⟨_,rfl,HR.out,HB.out⟩
set_option maxRecDepth 100000 in
theorem zgY {w:World} {lo B hi:Nat} {s:Nat→Int} {N:Nat} {x:Nat→RecD} {ce:Nat→List Value} {v:Value} {b1 b2 b3 b4 b5:Nat} (h:Ldg w lo B s N N x ce (v) b1 b2 b3 b4 b5) (hok:zah s) (q:Int) (hq:-9223372036854775808≤q∧q≤9223372036854775807) :
 Calls Tryz.prog 109 #[.pointer (some ⟨B,0,none⟩),.int .i64 q] w (zaT (∀ g,s 0≤g→g<s 0+s 1→DonP x N q g) w):=by
 have HL:=hid h;have HOK:=hid hok;have hsb:=okB hok;have x_0:w.cell? ⟨B,0,none⟩=some (.int .i64 (s 0)):=h.box.cell 0;clear h hok
 go_enter Tryz.func109,Tryz.ntmps109
 go_wp2
 go_loopw [5] (fun z wr=>∃ k:Nat,(k:Int)≤s 1∧z=.int .i64 (s 0+k)∧(∀ t:Nat,t<k→DonP x N q (s 0+t))∧Below w.heap.size w wr) (fun z _=>(s 0+s 1-intOf z).toNat)
 case atStart=>exact ⟨0,by omega,by simp,fun t ht=>by omega,Below.refl _ _⟩
 case round=>
  clear x_0;obtain ⟨k,hk,rfl,hall,hb⟩:=hrel;obtain ⟨wx,rfl⟩:∃ y,y=wr:=⟨_,rfl⟩;have HALL:=hid hall;have HB:=hid hb;have zx:=hb.size;have Lr:=HL.out.keepAll (fun b hb'=>hb.block b hb');have HLr:=hid Lr;have x_0:wx.cell? ⟨B,0,none⟩=some (.int .i64 (s 0)):=Lr.box.cell 0;have x_1:wx.cell? ⟨B,1,none⟩=some (.int .i64 (s 1)):=Lr.box.cell 1;have x_2:wx.cell? ⟨B,2,none⟩=some (.int .i64 (s 2)):=Lr.box.cell 2;have x_3:wx.cell? ⟨B,3,none⟩=some (.int .i64 (s 3)):=Lr.box.cell 3;have x_4:wx.cell? ⟨B,4,none⟩=some (.int .i64 (s 4)):=Lr.box.cell 4;have x_5:wx.cell? ⟨B,5,none⟩=some (.int .i64 (s 5)):=Lr.box.cell 5;have x_6:wx.cell? ⟨B,6,none⟩=some (.int .i64 (s 6)):=Lr.box.cell 6;have x_7:wx.cell? ⟨B,7,none⟩=some (.int .i64 (s 7)):=Lr.box.cell 7;have x_8:wx.cell? ⟨B,8,none⟩=some (.int .i64 (s 8)):=Lr.box.cell 8;have CG:=zbj s HOK.out wx;unfold zae at CG;clear hall hb Lr
  by_cases hlt:(k:Int)<s 1
  ·have t1:s 0+(k:Int)<s 0+s 1:=by omega
   go_wp2_with fail
   refine CG.mono ?_;rintro e w5 ⟨rfl,b5⟩;have L5:=HLr.out.keepAll (fun b hb'=>b5.block b hb');have z5:=b5.size;have CD:=zfu L5 q (s 0+k) hq (by omega);have HB5:=hid (HB.out.trans (b5.mono zx));clear CG b5 L5 x_0 x_1 x_2 x_3 x_4 x_5 x_6 x_7 x_8
   go_wp2_with fail
   refine CD.mono ?_;rintro e w6 ⟨td,rfl,htd,b6⟩;have HTD:=hid htd;have HB6:Hid (Below w.heap.size w w6):=HB5.out.trans (b6.mono (by omega));clear CD htd b6
   cases td with
   | false=>
    go_wp2;go_ret;exact ⟨false,rfl,⟨(fun h=>by cases h),fun h=>absurd (HTD.out.2 (h (s 0+k) (by omega) t1)) (by simp)⟩,HB6.out⟩
   | true=>
    have zi:IntKind.i64.wrap (s 0+(k:Int)+1)=s 0+((k+1:Nat):Int):=by rw [IntKind.wrap_i64];omega
    go_wp2
    go_roundw
    case rel=>exact ⟨k+1,by omega,by first | rfl | simp [zi] | (rw [zi]),fun t ht=>by
     by_cases c:t=k
     ·subst c;exact HTD.out.1 (by simp)
     ·exact HALL.out t (by omega),HB6.out⟩
    case measure=>simp [intOf,zi];omega
  ·have t1:decide (s 0+(k:Int)<s 0+s 1)=false:=by simp;omega
   have HDN:Hid (∀ g,s 0≤g→g<s 0+s 1→DonP x N q g):=fun g h1 h2=>by
    have:=HALL.out (g-s 0).toNat (by omega);rw [show s 0+((g-s 0).toNat:Int)=g by omega] at this;exact this
   go_wp2_with fail
   refine CG.mono ?_;rintro e w5 ⟨rfl,b5⟩;have HB5:=hid (HB.out.trans (b5.mono zx));clear CG b5 x_0 x_1 x_2 x_3 x_4 x_5 x_6 x_7 x_8;go_wp2;go_ret;exact ⟨true,rfl,⟨fun _=>HDN.out,fun _=>rfl⟩,HB5.out⟩
theorem zkP (cs:List Value):entV 1 cs=.iface 146 (.agg cs.toArray):=by
 unfold entV entT
 simp
theorem zkQ (cs:List Value):entV 2 cs=.iface 147 (.agg cs.toArray):=by
 unfold entV entT
 simp
theorem zkR (cs:List Value):entV 3 cs=.iface 148 (.agg cs.toArray):=by
 unfold entV entT
 simp
theorem zkd (cs:List Value):entV 4 cs=.iface 151 (.agg cs.toArray):=by
 unfold entV entT
 simp
set_option maxRecDepth 100000 in
theorem zgZ {w:World} {lo B hi:Nat} {s:Nat→Int} {N:Nat} {x:Nat→RecD} {ce:Nat→List Value} {v:Value} {b1 b2 b3 b4 b5:Nat} (h:Ldg w lo B s N N x ce (v) b1 b2 b3 b4 b5) (hok:zah s) (hC:Csd x N) (hhi:hi≤w.heap.size) (hr:∀ i,i<N→zab.rd w hi (x i) (ce i)) {i:Nat} (hi':i<N) (hk:(x i).kind=1) :
 Calls Tryz.prog 66 #[.pointer (some ⟨B,0,none⟩),entV (x i).kind (ce i)] w (zaT (SptP s x N i) w):=by
 have HL:=hid h;have HOK:=hid hok;have HCS:=hid hC;have HK:=hid hk;have HI:=hid hi';have HR:=hid hr;obtain ⟨ao6,cap6,ao7,cap7,ao8,cap8,ec,-,-,-,k0,k1,k2,k3,k4,k5⟩:=zaw (hr i hi');rw [hk,zkP,ec,show ([.int .i64 (x i).kind,.int .i64 (x i).seq,.string (x i).name,.int .i64 (x i).length,.int .i64 (x i).group,.int .i64 (x i).row,.slice ao6 (x i).rows.1 cap6,.slice ao7 (x i).data.1 cap7,.slice ao8 (x i).delta.1 cap8]:List Value).toArray=#[.int .i64 (x i).kind,.int .i64 (x i).seq,.string (x i).name,.int .i64 (x i).length,.int .i64 (x i).group,.int .i64 (x i).row,.slice ao6 (x i).rows.1 cap6,.slice ao7 (x i).data.1 cap7,.slice ao8 (x i).delta.1 cap8] from rfl];obtain ⟨r,hrr⟩:∃ r,r=x i:=⟨_,rfl⟩;have HRR:=hid hrr;rw [← hrr] at ec k1 k2 k4 k5 ⊢;have HEC:=hid ec;obtain ⟨j,hj,hnew,hsame⟩:=zlt HCS.out ce HI.out hk;obtain ⟨t,ht⟩:=exB (SameR (x i) (x j));have HT:=hid (ht.trans hsame);obtain ⟨bo6,bap6,bo7,bap7,bo8,bap8,eq,-,-,-,-,-,-,-,-,-⟩:=zaw (hr j hj);obtain ⟨q,hq⟩:∃ q,q=x j:=⟨_,rfl⟩;rw [← hq] at eq;rw [← hrr] at hnew;rw [eq] at hnew;obtain ⟨kl,hkl⟩:=zjM k2
 have hri:zab.rd w hi r [.int .i64 r.kind,.int .i64 r.seq,.string r.name,.int .i64 r.length,.int .i64 r.group,.int .i64 r.row,.slice ao6 r.rows.1 cap6,.slice ao7 r.data.1 cap7,.slice ao8 r.delta.1 cap8]:=by rw [← ec,hrr];exact hr i hi'
 have hrj:zab.rd w hi q [.int .i64 q.kind,.int .i64 q.seq,.string q.name,.int .i64 q.length,.int .i64 q.group,.int .i64 q.row,.slice bo6 q.rows.1 bap6,.slice bo7 q.data.1 bap7,.slice bo8 q.delta.1 bap8]:=by rw [← eq,hq];exact hr j hj
 rw [← hrr,← hq] at ht;have HT2:=hid ht;have HRI:=hid hri;have HRJ:=hid hrj
 have HLK:Hid (∀ w',Below w.heap.size w w'→(Instr.lookup 97 (.map (some b1)) (.string r.name) false).run Tryz.prog w'=.ok (.agg #[.int .i64 q.kind,.int .i64 q.seq,.string q.name,.int .i64 q.length,.int .i64 q.group,.int .i64 q.row,.slice bo6 q.rows.1 bap6,.slice bo7 q.data.1 bap7,.slice bo8 q.delta.1 bap8]) w'):=fun w' hb=>by
  have h1:=(HL.out.keepAll (fun b hb'=>hb.block b hb')).m1.look keyS Tryz.underlying97 (zlV _) hkl;rw [hnew] at h1;exact h1
 have f1:∀ w,(Instr.field 146 (.agg #[.int .i64 q.kind,.int .i64 q.seq,.string q.name,.int .i64 q.length,.int .i64 q.group,.int .i64 q.row,.slice bo6 q.rows.1 bap6,.slice bo7 q.data.1 bap7,.slice bo8 q.delta.1 bap8]) 0).run Tryz.prog w=.ok (.agg #[.int .i64 q.kind,.int .i64 q.seq,.string q.name,.int .i64 q.length,.int .i64 q.group,.int .i64 q.row,.slice bo6 q.rows.1 bap6,.slice bo7 q.data.1 bap7,.slice bo8 q.delta.1 bap8]) w:=fun w=>by kernel_rfl
 have f2:∀ w,(Instr.field 144 (.agg #[.int .i64 q.kind,.int .i64 q.seq,.string q.name,.int .i64 q.length,.int .i64 q.group,.int .i64 q.row,.slice bo6 q.rows.1 bap6,.slice bo7 q.data.1 bap7,.slice bo8 q.delta.1 bap8]) 0).run Tryz.prog w=.ok (.agg #[.int .i64 q.kind,.int .i64 q.seq,.string q.name,.int .i64 q.length,.int .i64 q.group,.int .i64 q.row,.slice bo6 q.rows.1 bap6,.slice bo7 q.data.1 bap7,.slice bo8 q.delta.1 bap8]) w:=fun w=>by kernel_rfl
 have TA0:=ta00;clear h hok hC hr hi' hk hrr ec k0 k3 k1 k2 k4 k5 ht hsame hnew hkl hj eq hq hri hrj
 go_enter Tryz.func66,Tryz.ntmps66
 go_upto_region 4 with fail
 have X6:=zao w #[.int .i64 r.kind,.int .i64 r.seq,.string r.name,.int .i64 r.length,.int .i64 r.group,.int .i64 r.row,.slice ao6 r.rows.1 cap6,.slice ao7 r.data.1 cap7,.slice ao8 r.delta.1 cap8] 146;have b6:=bAl w (.cells #[.int .i64 r.kind,.int .i64 r.seq,.string r.name,.int .i64 r.length,.int .i64 r.group,.int .i64 r.row,.slice ao6 r.rows.1 cap6,.slice ao7 r.data.1 cap7,.slice ao8 r.delta.1 cap8] 146);obtain ⟨W6,hW6⟩:∃ y,y=w.alloc (.cells #[.int .i64 r.kind,.int .i64 r.seq,.string r.name,.int .i64 r.length,.int .i64 r.group,.int .i64 r.row,.slice ao6 r.rows.1 cap6,.slice ao7 r.data.1 cap7,.slice ao8 r.delta.1 cap8] 146):=⟨_,rfl⟩;rw [← hW6] at X6 b6 ⊢;have L6:=HL.out.keepAll (fun b hb'=>b6.block b hb');have z6:w.heap.size<W6.heap.size:=X6.lt;have HB6:=hid b6;have HL6:=hid L6;have x_10:W6.cell? ⟨B,10,none⟩=some (.map (some b1)):=L6.box.cell 10;have xk_10:=cell_regrown x_10;have y_0:W6.cell? ⟨w.heap.size,0,none⟩=some (.int .i64 r.kind):=X6.cell 0;have yk_0:=cell_regrown y_0;have y_1:W6.cell? ⟨w.heap.size,1,none⟩=some (.int .i64 r.seq):=X6.cell 1;have yk_1:=cell_regrown y_1;have y_2:W6.cell? ⟨w.heap.size,2,none⟩=some (.string r.name):=X6.cell 2;have yk_2:=cell_regrown y_2;have y_3:W6.cell? ⟨w.heap.size,3,none⟩=some (.int .i64 r.length):=X6.cell 3;have yk_3:=cell_regrown y_3;have y_4:W6.cell? ⟨w.heap.size,4,none⟩=some (.int .i64 r.group):=X6.cell 4;have yk_4:=cell_regrown y_4;have y_5:W6.cell? ⟨w.heap.size,5,none⟩=some (.int .i64 r.row):=X6.cell 5;have yk_5:=cell_regrown y_5;have y_6:W6.cell? ⟨w.heap.size,6,none⟩=some (.slice ao6 r.rows.1 cap6):=X6.cell 6;have yk_6:=cell_regrown y_6;have y_7:W6.cell? ⟨w.heap.size,7,none⟩=some (.slice ao7 r.data.1 cap7):=X6.cell 7;have yk_7:=cell_regrown y_7;have y_8:W6.cell? ⟨w.heap.size,8,none⟩=some (.slice ao8 r.delta.1 cap8):=X6.cell 8;have yk_8:=cell_regrown y_8;have lHLK:=HLK.out W6 b6;have lHLKk:=fun d os=>HLK.out _ (b6.trans ((below_regrown W6 d os).mono (Nat.le_of_lt z6)));have cS:=zaG (W:=W6) (fun w' hb'=>zbb (zd9 r q _ _ hi hi w' (zab.rd_below HRI.out (b6.trans (hb'.mono (Nat.le_of_lt z6))) hhi) (zab.rd_below HRJ.out (b6.trans (hb'.mono (Nat.le_of_lt z6))) hhi) (by have:=hb'.size;omega) (by have:=hb'.size;omega)) HT2.out);clear TA0 hW6 X6 b6 L6;refine WQ.region (by kernel_rfl) (by kernel_rfl) ?_
 repeat (first | (apply WQ.skip;(case hw=>rfl);intro K hK;go_simp;apply hK;clear hK K) | (apply WQ.want;(case hw=>rfl);intro K hK;go_simp;first | (apply hK;clear hK K) | (apply Exists.intro;apply And.intro;(case left=>intro p;(first | (go_at_call 107;exact cS _ _)));apply hK;clear hK K)))
 refine WQ.nil ?_;intro w7 hw7;have HB7:Hid (Below w.heap.size w w7):=HB6.out.trans ((zaB hw7).mono (Nat.le_of_lt z6));clear hw7 x_10 xk_10 y_0 yk_0 y_1 yk_1 y_2 yk_2 y_3 yk_3 y_4 yk_4 y_5 yk_5 y_6 yk_6 y_7 yk_7 y_8 yk_8 lHLK lHLKk cS f1 f2;go_wp2;go_ret;exact ⟨!t,rfl,by rw [spt1 HK.out];have:=HT.out;cases t<;>simp_all,HB7.out⟩
set_option maxRecDepth 100000 in
theorem zg0 {w:World} {lo B hi:Nat} {s:Nat→Int} {N:Nat} {x:Nat→RecD} {ce:Nat→List Value} {v:Value} {b1 b2 b3 b4 b5:Nat} (h:Ldg w lo B s N N x ce (v) b1 b2 b3 b4 b5) (hok:zah s) (hC:Csd x N) (hhi:hi≤w.heap.size) (hr:∀ i,i<N→zab.rd w hi (x i) (ce i)) {i:Nat} (hi':i<N) (hk:(x i).kind=2) :
 Calls Tryz.prog 66 #[.pointer (some ⟨B,0,none⟩),entV (x i).kind (ce i)] w (zaT (SptP s x N i) w):=by
 have HL:=hid h;have HOK:=hid hok;have HCS:=hid hC;have HK:=hid hk;have HI:=hid hi';have HR:=hid hr;obtain ⟨ao6,cap6,ao7,cap7,ao8,cap8,ec,-,-,-,k0,k1,k2,k3,k4,k5⟩:=zaw (hr i hi');rw [hk,zkQ,ec,show ([.int .i64 (x i).kind,.int .i64 (x i).seq,.string (x i).name,.int .i64 (x i).length,.int .i64 (x i).group,.int .i64 (x i).row,.slice ao6 (x i).rows.1 cap6,.slice ao7 (x i).data.1 cap7,.slice ao8 (x i).delta.1 cap8]:List Value).toArray=#[.int .i64 (x i).kind,.int .i64 (x i).seq,.string (x i).name,.int .i64 (x i).length,.int .i64 (x i).group,.int .i64 (x i).row,.slice ao6 (x i).rows.1 cap6,.slice ao7 (x i).data.1 cap7,.slice ao8 (x i).delta.1 cap8] from rfl];obtain ⟨r,hrr⟩:∃ r,r=x i:=⟨_,rfl⟩;have HRR:=hid hrr;rw [← hrr] at ec k1 k2 k4 k5 ⊢;have HEC:=hid ec;obtain ⟨td,htd⟩:=exB (DonP x N r.seq r.group);obtain ⟨tp,htp⟩:=exB (∀ g,s 0≤g→g<s 0+s 1→DonP x N r.seq g);have HTD:=hid htd;have HTP:=hid htp;have HQ1:=hid k1;have HQ4:=hid k4;have TA0:=ta10;have TA1:=ta11;clear h hok hC hr hi' hk hrr ec k0 k3 k1 k2 k4 k5 htd htp
 go_enter Tryz.func66,Tryz.ntmps66
 go_upto_region 7 with fail
 have X6:=zao w (rwR r ao6 cap6 ao7 cap7 ao8 cap8).toArray 147;have b6:=bAl w (.cells (rwR r ao6 cap6 ao7 cap7 ao8 cap8).toArray 147);obtain ⟨W6,hW6⟩:∃ y,y=w.alloc (.cells (rwR r ao6 cap6 ao7 cap7 ao8 cap8).toArray 147):=⟨_,rfl⟩;rw [← hW6] at X6 b6 ⊢;have L6:=HL.out.keepAll (fun b hb'=>b6.block b hb');have z6:w.heap.size<W6.heap.size:=X6.lt;have HB6:=hid b6;have HL6:=hid L6;have y_0:W6.cell? ⟨w.heap.size,0,none⟩=some (.int .i64 r.kind):=X6.cell 0;have yk_0:=cell_regrown y_0;have y_1:W6.cell? ⟨w.heap.size,1,none⟩=some (.int .i64 r.seq):=X6.cell 1;have yk_1:=cell_regrown y_1;have y_2:W6.cell? ⟨w.heap.size,2,none⟩=some (.string r.name):=X6.cell 2;have yk_2:=cell_regrown y_2;have y_3:W6.cell? ⟨w.heap.size,3,none⟩=some (.int .i64 r.length):=X6.cell 3;have yk_3:=cell_regrown y_3;have y_4:W6.cell? ⟨w.heap.size,4,none⟩=some (.int .i64 r.group):=X6.cell 4;have yk_4:=cell_regrown y_4;have y_5:W6.cell? ⟨w.heap.size,5,none⟩=some (.int .i64 r.row):=X6.cell 5;have yk_5:=cell_regrown y_5;have y_6:W6.cell? ⟨w.heap.size,6,none⟩=some (.slice ao6 r.rows.1 cap6):=X6.cell 6;have yk_6:=cell_regrown y_6;have y_7:W6.cell? ⟨w.heap.size,7,none⟩=some (.slice ao7 r.data.1 cap7):=X6.cell 7;have yk_7:=cell_regrown y_7;have y_8:W6.cell? ⟨w.heap.size,8,none⟩=some (.slice ao8 r.delta.1 cap8):=X6.cell 8;have yk_8:=cell_regrown y_8;have CD:=zbb (zfu HL6.out r.seq r.group HQ1.out HQ4.out) HTD.out;have HX6:=hid X6;clear TA0 TA1 hW6 X6 b6 L6
 go_wp2_with fail
 refine CD.mono ?_;rintro e w7 ⟨rfl,b7⟩;have HB7:=hid (HB6.out.trans (b7.mono (Nat.le_of_lt z6)));have CP:=zbb (zgY (hi:=hi) (HL6.out.keepAll (fun b hb2=>b7.block b hb2)) HOK.out r.seq HQ1.out) HTP.out;have u_1:w7.cell? ⟨w.heap.size,1,none⟩=some (.int .i64 r.seq):=(HX6.out.below b7 (by omega)).cell 1;have z7:=b7.size;clear CD b7  y_0 yk_0 y_1 yk_1 y_2 yk_2 y_3 yk_3 y_4 yk_4 y_5 yk_5 y_6 yk_6 y_7 yk_7 y_8 yk_8
 cases td with
 | false=>
  go_wp2;go_ret;exact ⟨false,rfl,⟨(fun h=>by cases h),fun h=>by rw [spt2 HK.out,← HRR.out] at h;have:=HTD.out.2 h.1;cases this⟩,HB7.out⟩
 | true=>
  go_wp2_with fail
  refine CP.mono ?_;rintro e w8 ⟨rfl,b8⟩;have HB8:Hid (Below w.heap.size w w8):=HB7.out.trans (b8.mono (by omega));clear CP b8 u_1;go_wp2;go_ret
  exact ⟨tp,rfl,by
   rw [spt2 HK.out,← HRR.out]
   exact ⟨fun h=>⟨HTD.out.1 (by simp),HTP.out.1 h⟩,fun h=>HTP.out.2 h.2⟩,HB8.out⟩
set_option maxRecDepth 100000 in
theorem zg1 {w:World} {lo B hi:Nat} {s:Nat→Int} {N:Nat} {x:Nat→RecD} {ce:Nat→List Value} {v:Value} {b1 b2 b3 b4 b5:Nat} (h:Ldg w lo B s N N x ce (v) b1 b2 b3 b4 b5) (hok:zah s) (hC:Csd x N) (hhi:hi≤w.heap.size) (hr:∀ i,i<N→zab.rd w hi (x i) (ce i)) {i:Nat} (hi':i<N) (hk:(x i).kind=3) :
 Calls Tryz.prog 66 #[.pointer (some ⟨B,0,none⟩),entV (x i).kind (ce i)] w (zaT (SptP s x N i) w):=by
 have HL:=hid h;have HOK:=hid hok;have HCS:=hid hC;have HK:=hid hk;have HI:=hid hi';have HR:=hid hr;obtain ⟨ao6,cap6,ao7,cap7,ao8,cap8,ec,-,-,-,k0,k1,k2,k3,k4,k5⟩:=zaw (hr i hi');rw [hk,zkR,ec,show ([.int .i64 (x i).kind,.int .i64 (x i).seq,.string (x i).name,.int .i64 (x i).length,.int .i64 (x i).group,.int .i64 (x i).row,.slice ao6 (x i).rows.1 cap6,.slice ao7 (x i).data.1 cap7,.slice ao8 (x i).delta.1 cap8]:List Value).toArray=#[.int .i64 (x i).kind,.int .i64 (x i).seq,.string (x i).name,.int .i64 (x i).length,.int .i64 (x i).group,.int .i64 (x i).row,.slice ao6 (x i).rows.1 cap6,.slice ao7 (x i).data.1 cap7,.slice ao8 (x i).delta.1 cap8] from rfl];obtain ⟨r,hrr⟩:∃ r,r=x i:=⟨_,rfl⟩;have HRR:=hid hrr;rw [← hrr] at ec k1 k2 k4 k5 ⊢;have HEC:=hid ec;obtain ⟨kl,hkl⟩:=zfI k1;obtain ⟨c,hc⟩:∃ c,c=cN (fun i=>(x i).kind=2) (fun i=>.int .i64 (x i).seq) (.int .i64 r.seq) N:=⟨_,rfl⟩
 have HC:Hid (0<c↔∃ j,j<N∧(x j).kind=2∧(x j).seq=r.seq):=by
  show 0<c↔_
  rw [hc];exact zlu x N r.seq
 have HLK:Hid (∀ w',Below w.heap.size w w'→(Instr.lookup 98 (.map (some b2)) (.int .i64 r.seq) false).run Tryz.prog w'=.ok (.int .i64 (c:Int)) w'):=fun w' hb=>by
  have h1:=(HL.out.keepAll (fun b hb'=>hb.block b hb')).m2.look keyI Tryz.underlying98 (zc2 _) hkl;rw [show movF x N (.int .i64 r.seq)=cntF (fun i=>(x i).kind=2) (fun i=>.int .i64 (x i).seq) N (.int .i64 r.seq) from rfl,zcj,← hc] at h1;exact h1
 have TA0:=ta20;have TA1:=ta21;have TA2:=ta22;clear h hok hC hr hi' hk hrr ec k0 k3 k1 k2 k4 k5 hkl hc
 go_enter Tryz.func66,Tryz.ntmps66
 go_upto_region 10 with fail
 have X6:=zao w (rwR r ao6 cap6 ao7 cap7 ao8 cap8).toArray 148;have b6:=bAl w (.cells (rwR r ao6 cap6 ao7 cap7 ao8 cap8).toArray 148);obtain ⟨W6,hW6⟩:∃ y,y=w.alloc (.cells (rwR r ao6 cap6 ao7 cap7 ao8 cap8).toArray 148):=⟨_,rfl⟩;rw [← hW6] at X6 b6 ⊢;have L6:=HL.out.keepAll (fun b hb'=>b6.block b hb');have z6:w.heap.size<W6.heap.size:=X6.lt;have HB6:=hid b6;have HL6:=hid L6;have x_11:W6.cell? ⟨B,11,none⟩=some (.map (some b2)):=L6.box.cell 11;have xk_11:=cell_regrown x_11;have y_0:W6.cell? ⟨w.heap.size,0,none⟩=some (.int .i64 r.kind):=X6.cell 0;have yk_0:=cell_regrown y_0;have y_1:W6.cell? ⟨w.heap.size,1,none⟩=some (.int .i64 r.seq):=X6.cell 1;have yk_1:=cell_regrown y_1;have y_2:W6.cell? ⟨w.heap.size,2,none⟩=some (.string r.name):=X6.cell 2;have yk_2:=cell_regrown y_2;have y_3:W6.cell? ⟨w.heap.size,3,none⟩=some (.int .i64 r.length):=X6.cell 3;have yk_3:=cell_regrown y_3;have y_4:W6.cell? ⟨w.heap.size,4,none⟩=some (.int .i64 r.group):=X6.cell 4;have yk_4:=cell_regrown y_4;have y_5:W6.cell? ⟨w.heap.size,5,none⟩=some (.int .i64 r.row):=X6.cell 5;have yk_5:=cell_regrown y_5;have y_6:W6.cell? ⟨w.heap.size,6,none⟩=some (.slice ao6 r.rows.1 cap6):=X6.cell 6;have yk_6:=cell_regrown y_6;have y_7:W6.cell? ⟨w.heap.size,7,none⟩=some (.slice ao7 r.data.1 cap7):=X6.cell 7;have yk_7:=cell_regrown y_7;have y_8:W6.cell? ⟨w.heap.size,8,none⟩=some (.slice ao8 r.delta.1 cap8):=X6.cell 8;have yk_8:=cell_regrown y_8;have lHLK:=HLK.out W6 b6;have lHLKk:=fun d os=>HLK.out _ (b6.trans ((below_regrown W6 d os).mono (Nat.le_of_lt z6)));clear TA0 TA1 TA2 hW6 X6 b6 L6
 by_cases hc0:0<c
 ·have HP:=hid hc0
  have hd:((c:Int)==0)=false:=by simp;omega
  clear hc0;refine WQ.region (by kernel_rfl) (by kernel_rfl) ?_
  repeat (first | (apply WQ.skip;(case hw=>rfl);intro K hK;go_simp;apply hK;clear hK K) | (apply WQ.want;(case hw=>rfl);intro K hK;go_simp;first | (apply hK;clear hK K) | (apply Exists.intro;apply And.intro;(case left=>intro p;(first | fail));apply hK;clear hK K)))
  refine WQ.nil ?_;intro w7 hw7;have HB7:Hid (Below w.heap.size w w7):=HB6.out.trans ((zaB hw7).mono (Nat.le_of_lt z6));clear hw7 x_11 xk_11 y_0 yk_0 y_1 yk_1 y_2 yk_2 y_3 yk_3 y_4 yk_4 y_5 yk_5 y_6 yk_6 y_7 yk_7 y_8 yk_8 lHLK lHLKk;go_wp2;go_ret;exact ⟨false,rfl,⟨(fun h=>by cases h),fun h=>by rw [spt3 HK.out,← HRR.out] at h;exact absurd (HC.out.1 HP.out) h⟩,HB7.out⟩
 ·have HP:=hid hc0
  obtain rfl:c=0:=by omega
  clear hc0;refine WQ.region (by kernel_rfl) (by kernel_rfl) ?_
  repeat (first | (apply WQ.skip;(case hw=>rfl);intro K hK;go_simp;apply hK;clear hK K) | (apply WQ.want;(case hw=>rfl);intro K hK;go_simp;first | (apply hK;clear hK K) | (apply Exists.intro;apply And.intro;(case left=>intro p;(first | fail));apply hK;clear hK K)))
  refine WQ.nil ?_;intro w7 hw7;have HB7:Hid (Below w.heap.size w w7):=HB6.out.trans ((zaB hw7).mono (Nat.le_of_lt z6));clear hw7 x_11 xk_11 y_0 yk_0 y_1 yk_1 y_2 yk_2 y_3 yk_3 y_4 yk_4 y_5 yk_5 y_6 yk_6 y_7 yk_7 y_8 yk_8 lHLK lHLKk;go_wp2;go_ret;exact ⟨true,rfl,⟨fun _=>by rw [spt3 HK.out,← HRR.out];exact fun h=>HP.out (HC.out.2 h),fun _=>rfl⟩,HB7.out⟩
set_option maxRecDepth 100000 in
theorem zf4 {w:World} {lo B hi:Nat} {s:Nat→Int} {N:Nat} {x:Nat→RecD} {ce:Nat→List Value} {v:Value} {b1 b2 b3 b4 b5:Nat} (h:Ldg w lo B s N N x ce (v) b1 b2 b3 b4 b5) (hok:zah s) (hC:Csd x N) (hhi:hi≤w.heap.size) (hr:∀ i,i<N→zab.rd w hi (x i) (ce i)) {i:Nat} (hi':i<N) (hk:(x i).kind=4) :
 Calls Tryz.prog 66 #[.pointer (some ⟨B,0,none⟩),entV (x i).kind (ce i)] w (zaT (SptP s x N i) w):=by
 have HL:=hid h;have HOK:=hid hok;have HCS:=hid hC;have HK:=hid hk;have HI:=hid hi';have HR:=hid hr;obtain ⟨ao6,cap6,ao7,cap7,ao8,cap8,ec,-,-,-,k0,k1,k2,k3,k4,k5⟩:=zaw (hr i hi');rw [hk,zkd,ec,show ([.int .i64 (x i).kind,.int .i64 (x i).seq,.string (x i).name,.int .i64 (x i).length,.int .i64 (x i).group,.int .i64 (x i).row,.slice ao6 (x i).rows.1 cap6,.slice ao7 (x i).data.1 cap7,.slice ao8 (x i).delta.1 cap8]:List Value).toArray=#[.int .i64 (x i).kind,.int .i64 (x i).seq,.string (x i).name,.int .i64 (x i).length,.int .i64 (x i).group,.int .i64 (x i).row,.slice ao6 (x i).rows.1 cap6,.slice ao7 (x i).data.1 cap7,.slice ao8 (x i).delta.1 cap8] from rfl];obtain ⟨r,hrr⟩:∃ r,r=x i:=⟨_,rfl⟩;have HRR:=hid hrr;rw [← hrr] at ec k1 k2 k4 k5 ⊢;have HEC:=hid ec;obtain ⟨kl,hkl⟩:=zfI k1;obtain ⟨kp,hkp⟩:=zeE k4 k5;obtain ⟨c,hc⟩:∃ c,c=cN (fun i=>(x i).kind=3) (fun i=>.int .i64 (x i).seq) (.int .i64 r.seq) N:=⟨_,rfl⟩
 have HC:Hid (0<c↔∃ j,j<N∧(x j).kind=3∧(x j).seq=r.seq):=by
  show 0<c↔_
  rw [hc];exact zlv x N r.seq
 obtain ⟨j,hj,hsh,hlt⟩:=zls HCS.out HI.out hk;obtain ⟨qs,hqs⟩:∃ qs,qs=(x j).seq:=⟨_,rfl⟩;rw [← hqs,← hrr] at hsh hlt;have HLT:=hid hlt
 have HLK:Hid (∀ w',Below w.heap.size w w'→(Instr.lookup 98 (.map (some b4)) (.int .i64 r.seq) false).run Tryz.prog w'=.ok (.int .i64 (c:Int)) w'):=fun w' hb=>by
  have h1:=(HL.out.keepAll (fun b hb'=>hb.block b hb')).m4.look keyI Tryz.underlying98 (zc2 _) hkl;rw [show endF x N (.int .i64 r.seq)=cntF (fun i=>(x i).kind=3) (fun i=>.int .i64 (x i).seq) N (.int .i64 r.seq) from rfl,zcj,← hc] at h1;exact h1
 have HLP:Hid (∀ w',Below w.heap.size w w'→(Instr.lookup 100 (.map (some b5)) (.agg #[.int .i64 r.group,.int .i64 r.row]) false).run Tryz.prog w'=.ok (.int .i64 qs) w'):=fun w' hb=>by
  have h1:=(HL.out.keepAll (fun b hb'=>hb.block b hb')).m5.look zic Tryz.underlying100 (zc2 _) hkp;rw [hsh] at h1;exact h1
 have TA0:=ta30;have TA1:=ta31;have TA2:=ta32;have TA3:=ta33;clear h hok hC hr hi' hk hrr ec k0 k3 k1 k2 k4 k5 hkl hc hkp hj hsh hlt hqs
 go_enter Tryz.func66,Tryz.ntmps66
 go_upto_region 13 with fail
 have X6:=zao w (rwR r ao6 cap6 ao7 cap7 ao8 cap8).toArray 151;have b6:=bAl w (.cells (rwR r ao6 cap6 ao7 cap7 ao8 cap8).toArray 151);obtain ⟨W6,hW6⟩:∃ y,y=w.alloc (.cells (rwR r ao6 cap6 ao7 cap7 ao8 cap8).toArray 151):=⟨_,rfl⟩;rw [← hW6] at X6 b6 ⊢;have L6:=HL.out.keepAll (fun b hb'=>b6.block b hb');have z6:w.heap.size<W6.heap.size:=X6.lt;have HB6:=hid b6;have HL6:=hid L6;have x_13:W6.cell? ⟨B,13,none⟩=some (.map (some b4)):=L6.box.cell 13;have xk_13:=cell_regrown x_13;have x_14:W6.cell? ⟨B,14,none⟩=some (.map (some b5)):=L6.box.cell 14;have xk_14:=cell_regrown x_14;have y_0:W6.cell? ⟨w.heap.size,0,none⟩=some (.int .i64 r.kind):=X6.cell 0;have yk_0:=cell_regrown y_0;have y_1:W6.cell? ⟨w.heap.size,1,none⟩=some (.int .i64 r.seq):=X6.cell 1;have yk_1:=cell_regrown y_1;have y_2:W6.cell? ⟨w.heap.size,2,none⟩=some (.string r.name):=X6.cell 2;have yk_2:=cell_regrown y_2;have y_3:W6.cell? ⟨w.heap.size,3,none⟩=some (.int .i64 r.length):=X6.cell 3;have yk_3:=cell_regrown y_3;have y_4:W6.cell? ⟨w.heap.size,4,none⟩=some (.int .i64 r.group):=X6.cell 4;have yk_4:=cell_regrown y_4;have y_5:W6.cell? ⟨w.heap.size,5,none⟩=some (.int .i64 r.row):=X6.cell 5;have yk_5:=cell_regrown y_5;have y_6:W6.cell? ⟨w.heap.size,6,none⟩=some (.slice ao6 r.rows.1 cap6):=X6.cell 6;have yk_6:=cell_regrown y_6;have y_7:W6.cell? ⟨w.heap.size,7,none⟩=some (.slice ao7 r.data.1 cap7):=X6.cell 7;have yk_7:=cell_regrown y_7;have y_8:W6.cell? ⟨w.heap.size,8,none⟩=some (.slice ao8 r.delta.1 cap8):=X6.cell 8;have yk_8:=cell_regrown y_8;have lHLK:=HLK.out W6 b6;have lHLKk:=fun d os=>HLK.out _ (b6.trans ((below_regrown W6 d os).mono (Nat.le_of_lt z6)));have lHLP:=HLP.out W6 b6;have lHLPk:=fun d os=>HLP.out _ (b6.trans ((below_regrown W6 d os).mono (Nat.le_of_lt z6)));clear TA0 TA1 TA2 TA3 hW6 X6 b6 L6
 by_cases hc0:0<c
 ·have HP:=hid hc0
  have t1:(0:Int)<(c:Int):=by omega
  have t2:decide ((0:Int)<(c:Int))=true:=decide_eq_true t1;have t3:decide (0<c)=true:=decide_eq_true hc0;refine WQ.region (by kernel_rfl) (by kernel_rfl) ?_
  repeat (first | (apply WQ.skip;(case hw=>rfl);intro K hK;go_simp;apply hK;clear hK K) | (apply WQ.want;(case hw=>rfl);intro K hK;go_simp;first | (apply hK;clear hK K) | (apply Exists.intro;apply And.intro;(case left=>intro p;(first | fail));apply hK;clear hK K)))
  refine WQ.nil ?_;intro w7 hw7;have HB7:Hid (Below w.heap.size w w7):=HB6.out.trans ((zaB hw7).mono (Nat.le_of_lt z6));clear hw7 x_13 xk_13 x_14 xk_14 y_0 yk_0 y_1 yk_1 y_2 yk_2 y_3 yk_3 y_4 yk_4 y_5 yk_5 y_6 yk_6 y_7 yk_7 y_8 yk_8 lHLK lHLKk lHLP lHLPk;go_wp2;go_ret;exact ⟨true,rfl,⟨fun _=>by rw [spt4 HK.out,← HRR.out];obtain ⟨a,a1,a2⟩:=HC.out.1 HP.out;exact ⟨a,a1,.inl a2⟩,fun _=>rfl⟩,HB7.out⟩
 ·have HP:=hid hc0
  obtain rfl:c=0:=by omega
  clear hc0
  by_cases hq:r.seq<qs
  ·have HQ:=hid hq
   refine WQ.region (by kernel_rfl) (by kernel_rfl) ?_
   repeat (first | (apply WQ.skip;(case hw=>rfl);intro K hK;go_simp;apply hK;clear hK K) | (apply WQ.want;(case hw=>rfl);intro K hK;go_simp;first | (apply hK;clear hK K) | (apply Exists.intro;apply And.intro;(case left=>intro p;(first | fail));apply hK;clear hK K)))
   refine WQ.nil ?_;intro w7 hw7;have HB7:Hid (Below w.heap.size w w7):=HB6.out.trans ((zaB hw7).mono (Nat.le_of_lt z6));clear hw7 x_13 xk_13 x_14 xk_14 y_0 yk_0 y_1 yk_1 y_2 yk_2 y_3 yk_3 y_4 yk_4 y_5 yk_5 y_6 yk_6 y_7 yk_7 y_8 yk_8 lHLK lHLKk lHLP lHLPk;go_wp2;go_ret;exact ⟨true,rfl,⟨fun _=>by rw [spt4 HK.out,← HRR.out];obtain ⟨a,a1,a2⟩:=HLT.out.1 HQ.out;exact ⟨a,a1,.inr a2⟩,fun _=>rfl⟩,HB7.out⟩
  ·have HQ:=hid hq
   have hd:decide (r.seq<qs)=false:=decide_eq_false hq;refine WQ.region (by kernel_rfl) (by kernel_rfl) ?_
   repeat (first | (apply WQ.skip;(case hw=>rfl);intro K hK;go_simp;apply hK;clear hK K) | (apply WQ.want;(case hw=>rfl);intro K hK;go_simp;first | (apply hK;clear hK K) | (apply Exists.intro;apply And.intro;(case left=>intro p;(first | fail));apply hK;clear hK K)))
   refine WQ.nil ?_;intro w7 hw7;have HB7:Hid (Below w.heap.size w w7):=HB6.out.trans ((zaB hw7).mono (Nat.le_of_lt z6));clear hw7 x_13 xk_13 x_14 xk_14 y_0 yk_0 y_1 yk_1 y_2 yk_2 y_3 yk_3 y_4 yk_4 y_5 yk_5 y_6 yk_6 y_7 yk_7 y_8 yk_8 lHLK lHLKk lHLP lHLPk;go_wp2;go_ret;exact ⟨false,rfl,⟨(fun h=>by cases h),fun h=>by rw [spt4 HK.out,← HRR.out] at h;obtain ⟨a,a1,a2⟩:=h;exact a2.elim (fun a2=>absurd (HC.out.2 ⟨a,a1,a2⟩) HP.out) (fun a2=>absurd (HLT.out.2 ⟨a,a1,a2⟩) (by have:=HQ.out;omega))⟩,HB7.out⟩
theorem zhS {w:World} {lo B hi:Nat} {s:Nat→Int} {N:Nat} {x:Nat→RecD} {ce:Nat→List Value} {v:Value} {b1 b2 b3 b4 b5:Nat} (h:Ldg w lo B s N N x ce (v) b1 b2 b3 b4 b5) (hok:zah s) (hC:Csd x N) (hhi:hi≤w.heap.size) (hr:∀ i,i<N→zab.rd w hi (x i) (ce i)) (hkd:∀ i,i<N→InP (x i).kind 1 4) {i:Nat} (hi':i<N) :
 Calls Tryz.prog 66 #[.pointer (some ⟨B,0,none⟩),entV (x i).kind (ce i)] w (zaT (SptP s x N i) w):=by
 obtain ⟨q1,q2⟩:=hkd i hi'
 have hc:(x i).kind=1∨(x i).kind=2∨(x i).kind=3∨(x i).kind=4:=by omega
 rcases hc with hk | hk | hk | hk
 ·exact zgZ h hok hC hhi hr hi' hk
 ·exact zg0 h hok hC hhi hr hi' hk
 ·exact zg1 h hok hC hhi hr hi' hk
 ·exact zf4 h hok hC hhi hr hi' hk
structure Turn {α:Type} (A:Lay α) (w:World) (K:List Nat) (w':World) (a:α) (cs:List Value) (K':List Nat):Prop where
 own:A.own w' a cs K'
 nd:K'.Nodup
 sub:∀ b,b∈K'→b∈K∨(w.heap.size≤b∧b<w'.heap.size)
 chg:ChgL K w w'
section
variable {α:Type} {E:Lay α} {t:TypeId} {w w':World} {g cap n:Nat} {x:Nat→α} {ce:Nat→List Value} {Ls:Nat→List Nat}
end
structure WOpen (w:World) (lo hi:Nat) (d:WorldD) (v1 v2 v3:Value) (K1 K2 K3:List Nat):Prop where
 g:((zad.slice 128).slice 90).own w d.groups [v1] K1
 o:zaj.own w d.on [v2] K2
 t:(zam.slice 79).own w d.tapes [v3] K3
 nd:(K1++(K2++K3)).Nodup
 inn:∀ b,b∈K1++(K2++K3)→lo≤b∧b<hi
 k0:∀ i,-9223372036854775808≤d.shape i∧d.shape i≤9223372036854775807
 k4:-9223372036854775808≤d.writes∧d.writes≤9223372036854775807
 k5:-9223372036854775808≤d.stop∧d.stop≤9223372036854775807
section
variable {w w':World} {lo hi:Nat} {d:WorldD} {v1 v2 v3:Value} {K1 K2 K3:List Nat}
end
section
variable {α:Type} {E:Lay α} {t:TypeId} {w w':World} {g cap n:Nat} {x:Nat→α} {ce:Nat→List Value} {Ls:Nat→List Nat}
end
def zbq (p:Nat→Bool) (n:Nat):List Nat:=(List.range n).filter p
theorem zcw (p:Nat→Bool) (n:Nat):zbq p (n+1)=zbq p n++(if p n then [n] else []):=by
 unfold zbq;rw [List.range_succ,List.filter_append]
 cases h:p n<;>simp [h]
theorem zlw (p:Nat→Bool) (n:Nat):(zbq p n).length≤n:=by
 have:=List.length_filter_le p (List.range n);unfold zbq
 simpa using this
def selF (p:Nat→Bool) (n:Nat):Nat→Nat:=fun m=>(zbq p n).getD m 0
theorem zg2 {p:Nat→Bool} {n m:Nat} (h:m<(zbq p n).length):selF p (n+1) m=selF p n m:=by
 unfold selF;rw [zcw,List.getD_eq_getElem?_getD,List.getD_eq_getElem?_getD,List.getElem?_append_left h]
theorem zke {p:Nat→Bool} {n:Nat} (h:p n=true):selF p (n+1) (zbq p n).length=n:=by
 unfold selF;rw [zcw,List.getD_eq_getElem?_getD,List.getElem?_append_right (Nat.le_refl _),Nat.sub_self,if_pos h];rfl
theorem zdP {p:Nat→Bool} {n:Nat} (h:p n=false):zbq p (n+1)=zbq p n:=by rw [zcw,if_neg (by simp [h])];simp
section
variable {α:Type} {E:Lay α} {t:TypeId} {w w':World} {g cap n:Nat} {x:Nat→α} {ce:Nat→List Value} {Ls:Nat→List Nat}
end
end Go.Proofs.YtajibninhikdgaaGreat
