/- Walks of the program's copies of records and tapes. -/
import Derived.Deep.MidRow
import Derived.OrdersHeld
import Derived.Deep.RegionHeld
import Derived.Test.YthbpmbgfddpffaaGreatZPcleanah
set_option linter.unusedVariables false
set_option linter.unusedSimpArgs false
set_option maxHeartbeats 16000000
namespace Go.Proofs.YthbpmbgfddpffaaGreat
open Go.RowKit F256
theorem zcO:ElInfo zab 78 85 128 [.int .i64 0,.int .i64 0,.string ByteArray.empty,.int .i64 0,.int .i64 0,.int .i64 0,.slice none 0 0,.slice none 0 0,.slice none 0 0]:=⟨by decide,rfl,Tryz.underlying78,by kernel_rfl,by decide⟩
set_option maxRecDepth 20000 in
theorem zkC:ToV zab zbl 166:=fun cs d hi w r hhi hn=>by
 obtain ⟨ao6,cap6,ao7,cap7,ao8,cap8,rfl,h6,h7,h8,k0,k1,k2,k3,k4,k5⟩:=zaD r;clear r;unfold zbl at hn;have R6:=hid h6;have R7:=hid h7;have R8:=hid h8;clear h6 h7 h8;have Q0:=hid k0;have Q1:=hid k1;have Q2:=hid k2;have Q3:=hid k3;have Q4:=hid k4;have Q5:=hid k5;clear k0 k1 k2 k3 k4 k5;have T0:=zaz w (rwR d ao6 cap6 ao7 cap7 ao8 cap8).toArray #[.int .i64 0,.int .i64 0,.string ByteArray.empty,.int .i64 0,.int .i64 0,.int .i64 0,.slice none 0 0,.slice none 0 0,.slice none 0 0] 85 85
 go_enter Tryz.func166,Tryz.ntmps166
 go_wp2_with fail
 refine (zfw _ d.rows hi _ (zao.rd_below R6.out T0.bel hhi) (Nat.le_trans hhi T0.bel.size) (by omega)).mono ?_;rintro e w1 ⟨v0,rfl,o0,b0⟩;obtain ⟨bo6,bcap6,hv⟩:=zcH o0;obtain rfl:=za2 hv;clear hv;have T0c:=T0.call b0;have z0:=T0.b2.lt;have y0:=b0.size;have c0_6:w1.cell? ⟨w.heap.size,6,none⟩=some (.slice ao6 d.rows.1 cap6):=T0c.b1.cell 6;have c0f_6:w1.frozen? ⟨w.heap.size,6,none⟩=false:=T0c.b1.frozen 6;have T1x:Two w (w1.setCell ⟨w.heap.size,6,none⟩ (.slice bo6 d.rows.1 bcap6)) (rwR d bo6 bcap6 ao7 cap7 ao8 cap8).toArray #[.int .i64 0,.int .i64 0,.string ByteArray.empty,.int .i64 0,.int .i64 0,.int .i64 0,.slice none 0 0,.slice none 0 0,.slice none 0 0] 85 85:=⟨T0c.b1.stL [.slice bo6 d.rows.1 bcap6] 6,T0c.b2.seto _ _ (by omega),T0c.bel.setCell (Nat.le_refl _) _⟩;have O6_0:=(o0.stN w.heap.size 6 [.slice bo6 d.rows.1 bcap6] (by omega))
 have e1:(w1.setCell ⟨w.heap.size,6,none⟩ (.slice bo6 d.rows.1 bcap6)).heap.size=w1.heap.size:=by simp
 clear o0 b0
 go_upto_region 2 with fail
 obtain ⟨W1,hW1⟩:∃ x,x=w1.setCell ⟨w.heap.size,6,none⟩ (.slice bo6 d.rows.1 bcap6):=⟨_,rfl⟩
 have O6:Hid (OwnT zao W1 (w.heap.size+1+1) (w1.heap.size) d.rows [.slice bo6 d.rows.1 bcap6]):=by rw [hW1];exact OwnT.weaken O6_0 (by simp) (Nat.le_refl _)
 rw [← hW1] at T1x e1 ⊢;clear hW1 O6_0 T0c c0_6 c0f_6;have a1_7:W1.cell? ⟨w.heap.size,7,none⟩=some (.slice ao7 d.data.1 cap7):=T1x.b1.cell 7
 go_wp2_with fail
 refine (zdD _ d.data hi _ (zag.rd_below R7.out T1x.bel hhi) (Nat.le_trans hhi T1x.bel.size) (by omega)).mono ?_;rintro e w2 ⟨v1,rfl,o1,b1⟩;obtain ⟨bo7,bcap7,hv⟩:=zby o1;obtain rfl:=za2 hv;clear hv;have T1c:=T1x.call b1;have z1:=T1x.b2.lt;have y1:=b1.size;have c1_7:w2.cell? ⟨w.heap.size,7,none⟩=some (.slice ao7 d.data.1 cap7):=T1c.b1.cell 7;have c1f_7:w2.frozen? ⟨w.heap.size,7,none⟩=false:=T1c.b1.frozen 7;have T2x:Two w (w2.setCell ⟨w.heap.size,7,none⟩ (.slice bo7 d.data.1 bcap7)) (rwR d bo6 bcap6 bo7 bcap7 ao8 cap8).toArray #[.int .i64 0,.int .i64 0,.string ByteArray.empty,.int .i64 0,.int .i64 0,.int .i64 0,.slice none 0 0,.slice none 0 0,.slice none 0 0] 85 85:=⟨T1c.b1.stL [.slice bo7 d.data.1 bcap7] 7,T1c.b2.seto _ _ (by omega),T1c.bel.setCell (Nat.le_refl _) _⟩;have O6_1:=(O6.out.call b1).stN w.heap.size 7 [.slice bo7 d.data.1 bcap7] (by omega);have O7_1:=(o1.stN w.heap.size 7 [.slice bo7 d.data.1 bcap7] (by omega))
 have e2:(w2.setCell ⟨w.heap.size,7,none⟩ (.slice bo7 d.data.1 bcap7)).heap.size=w2.heap.size:=by simp
 clear o1 b1 O6 T1x a1_7
 go_upto_region 3 with fail
 obtain ⟨W2,hW2⟩:∃ x,x=w2.setCell ⟨w.heap.size,7,none⟩ (.slice bo7 d.data.1 bcap7):=⟨_,rfl⟩
 have O6:Hid (OwnT zao W2 (w.heap.size+1+1) (w1.heap.size) d.rows [.slice bo6 d.rows.1 bcap6]):=by rw [hW2];exact O6_1
 have O7:Hid (OwnT zag W2 (W1.heap.size) (w2.heap.size) d.data [.slice bo7 d.data.1 bcap7]):=by rw [hW2];exact O7_1
 rw [← hW2] at T2x e2 ⊢;clear hW2 O6_1 O7_1 T1c c1_7 c1f_7;have a2_8:W2.cell? ⟨w.heap.size,8,none⟩=some (.slice ao8 d.delta.1 cap8):=T2x.b1.cell 8
 go_wp2_with fail
 refine (zdD _ d.delta hi _ (zag.rd_below R8.out T2x.bel hhi) (Nat.le_trans hhi T2x.bel.size) (by omega)).mono ?_;rintro e w3 ⟨v2,rfl,o2,b2⟩;obtain ⟨bo8,bcap8,hv⟩:=zby o2;obtain rfl:=za2 hv;clear hv;have T2c:=T2x.call b2;have z2:=T2x.b2.lt;have y2:=b2.size;have c2_8:w3.cell? ⟨w.heap.size,8,none⟩=some (.slice ao8 d.delta.1 cap8):=T2c.b1.cell 8;have c2f_8:w3.frozen? ⟨w.heap.size,8,none⟩=false:=T2c.b1.frozen 8;have T3x:Two w (w3.setCell ⟨w.heap.size,8,none⟩ (.slice bo8 d.delta.1 bcap8)) (rwR d bo6 bcap6 bo7 bcap7 bo8 bcap8).toArray #[.int .i64 0,.int .i64 0,.string ByteArray.empty,.int .i64 0,.int .i64 0,.int .i64 0,.slice none 0 0,.slice none 0 0,.slice none 0 0] 85 85:=⟨T2c.b1.stL [.slice bo8 d.delta.1 bcap8] 8,T2c.b2.seto _ _ (by omega),T2c.bel.setCell (Nat.le_refl _) _⟩;have O6_2:=(O6.out.call b2).stN w.heap.size 8 [.slice bo8 d.delta.1 bcap8] (by omega);have O7_2:=(O7.out.call b2).stN w.heap.size 8 [.slice bo8 d.delta.1 bcap8] (by omega);have O8_2:=(o2.stN w.heap.size 8 [.slice bo8 d.delta.1 bcap8] (by omega))
 have e3:(w3.setCell ⟨w.heap.size,8,none⟩ (.slice bo8 d.delta.1 bcap8)).heap.size=w3.heap.size:=by simp
 clear o2 b2 O6 O7 T2x a2_8
 go_upto_region 4 with fail
 obtain ⟨W3,hW3⟩:∃ x,x=w3.setCell ⟨w.heap.size,8,none⟩ (.slice bo8 d.delta.1 bcap8):=⟨_,rfl⟩
 have O6:Hid (OwnT zao W3 (w.heap.size+1+1) (w1.heap.size) d.rows [.slice bo6 d.rows.1 bcap6]):=by rw [hW3];exact O6_2
 have O7:Hid (OwnT zag W3 (W1.heap.size) (w2.heap.size) d.data [.slice bo7 d.data.1 bcap7]):=by rw [hW3];exact O7_2
 have O8:Hid (OwnT zag W3 (W2.heap.size) (w3.heap.size) d.delta [.slice bo8 d.delta.1 bcap8]):=by rw [hW3];exact O8_2
 rw [← hW3] at T3x e3 ⊢;clear hW3 O6_2 O7_2 O8_2 T2c c2_8 c2f_8;have y_0:W3.cell? ⟨w.heap.size,0,none⟩=some (.int .i64 d.kind):=T3x.b1.cell 0;have y_1:W3.cell? ⟨w.heap.size,1,none⟩=some (.int .i64 d.seq):=T3x.b1.cell 1;have y_2:W3.cell? ⟨w.heap.size,2,none⟩=some (.string d.name):=T3x.b1.cell 2;have y_3:W3.cell? ⟨w.heap.size,3,none⟩=some (.int .i64 d.length):=T3x.b1.cell 3;have y_4:W3.cell? ⟨w.heap.size,4,none⟩=some (.int .i64 d.group):=T3x.b1.cell 4;have y_5:W3.cell? ⟨w.heap.size,5,none⟩=some (.int .i64 d.row):=T3x.b1.cell 5;have y_6:W3.cell? ⟨w.heap.size,6,none⟩=some (.slice bo6 d.rows.1 bcap6):=T3x.b1.cell 6;have y_7:W3.cell? ⟨w.heap.size,7,none⟩=some (.slice bo7 d.data.1 bcap7):=T3x.b1.cell 7;have y_8:W3.cell? ⟨w.heap.size,8,none⟩=some (.slice bo8 d.delta.1 bcap8):=T3x.b1.cell 8;have r_0:W3.cell? ⟨w.heap.size+1,0,none⟩=some (.int .i64 0):=T3x.b2.cell 0;have rf_0:W3.frozen? ⟨w.heap.size+1,0,none⟩=false:=T3x.b2.frozen 0;have r_1:W3.cell? ⟨w.heap.size+1,1,none⟩=some (.int .i64 0):=T3x.b2.cell 1;have rf_1:W3.frozen? ⟨w.heap.size+1,1,none⟩=false:=T3x.b2.frozen 1;have r_2:W3.cell? ⟨w.heap.size+1,2,none⟩=some (.string ByteArray.empty):=T3x.b2.cell 2;have rf_2:W3.frozen? ⟨w.heap.size+1,2,none⟩=false:=T3x.b2.frozen 2;have r_3:W3.cell? ⟨w.heap.size+1,3,none⟩=some (.int .i64 0):=T3x.b2.cell 3;have rf_3:W3.frozen? ⟨w.heap.size+1,3,none⟩=false:=T3x.b2.frozen 3;have r_4:W3.cell? ⟨w.heap.size+1,4,none⟩=some (.int .i64 0):=T3x.b2.cell 4;have rf_4:W3.frozen? ⟨w.heap.size+1,4,none⟩=false:=T3x.b2.frozen 4;have r_5:W3.cell? ⟨w.heap.size+1,5,none⟩=some (.int .i64 0):=T3x.b2.cell 5;have rf_5:W3.frozen? ⟨w.heap.size+1,5,none⟩=false:=T3x.b2.frozen 5;have r_6:W3.cell? ⟨w.heap.size+1,6,none⟩=some (.slice none 0 0):=T3x.b2.cell 6;have rf_6:W3.frozen? ⟨w.heap.size+1,6,none⟩=false:=T3x.b2.frozen 6;have r_7:W3.cell? ⟨w.heap.size+1,7,none⟩=some (.slice none 0 0):=T3x.b2.cell 7;have rf_7:W3.frozen? ⟨w.heap.size+1,7,none⟩=false:=T3x.b2.frozen 7;have r_8:W3.cell? ⟨w.heap.size+1,8,none⟩=some (.slice none 0 0):=T3x.b2.cell 8;have rf_8:W3.frozen? ⟨w.heap.size+1,8,none⟩=false:=T3x.b2.frozen 8;have HB:=hid T3x.bel;have zz:=T3x.b2.lt;clear T3x;go_wp2;refine bodyPost_ret (v:=.agg (rwR d bo6 bcap6 bo7 bcap7 bo8 bcap8).toArray) (by simp [results,Tryz.results166,go_sem,r_0,y_0,r_1,y_1,r_2,y_2,r_3,y_3,r_4,y_4,r_5,y_5,r_6,y_6,r_7,y_7,r_8,y_8]) rfl ?_;have F:OwnT zab W3 (w.heap.size+1+1) w3.heap.size d ([.int .i64 d.kind]++([.int .i64 d.seq]++([.string d.name]++([.int .i64 d.length]++([.int .i64 d.group]++([.int .i64 d.row]++([.slice bo6 d.rows.1 bcap6]++([.slice bo7 d.data.1 bcap7]++[.slice bo8 d.delta.1 bcap8])))))))):=OwnT.conv (OwnT.pre (A:=layI) (a:=d.kind) (c:=[.int .i64 d.kind]) ⟨rfl,Q0.out,rfl⟩ (OwnT.pre (A:=layI) (a:=d.seq) (c:=[.int .i64 d.seq]) ⟨rfl,Q1.out,rfl⟩ (OwnT.pre (A:=layS) (a:=d.name) (c:=[.string d.name]) ⟨rfl,Q2.out,rfl⟩ (OwnT.pre (A:=layI) (a:=d.length) (c:=[.int .i64 d.length]) ⟨rfl,Q3.out,rfl⟩ (OwnT.pre (A:=layI) (a:=d.group) (c:=[.int .i64 d.group]) ⟨rfl,Q4.out,rfl⟩ (OwnT.pre (A:=layI) (a:=d.row) (c:=[.int .i64 d.row]) ⟨rfl,Q5.out,rfl⟩ (OwnT.two O6.out (OwnT.two O7.out O8.out (by omega) (by omega) (by omega)) (by omega) (by omega) (by omega))))))))
 refine ⟨(rwR d bo6 bcap6 bo7 bcap7 bo8 bcap8),rfl,?_,?_⟩
 ·exact OwnT.finb (F.weaken (Nat.le_refl _) (by omega)) (b:=w.heap.size+1) (by omega) (by omega) 0 (rwR d bo6 bcap6 bo7 bcap7 bo8 bcap8) _ rfl
 ·exact HB.out.trans (za1 (by omega) (rwR d bo6 bcap6 bo7 bcap7 bo8 bcap8) 0)
set_option maxRecDepth 20000 in
theorem zji:ToF (zab.slice 85) (szSl zbl) 165 166:=fun v d hi w h hhi hn=>by
 obtain ⟨n,x⟩:=d;obtain ⟨ao,cap,hv,hm,hc⟩:=h
 cases hv
 have hn1:=zcK hn;have hn2:∀ i,i<n→zbl (x i)≤1048576:=fun i hi=>zbK hn hi
 simp only at hn1 hm hc
 clear hn
 go_enter Tryz.func165,Tryz.ntmps165
 go_wp2_with (at_make;refine zcq zab [.int .i64 0,.int .i64 0,.string ByteArray.empty,.int .i64 0,.int .i64 0,.int .i64 0,.slice none 0 0,.slice none 0 0,.slice none 0 0] _ 85 128 (zcO).hs rfl Tryz.underlying78 (zcO).hi x (fun _=>[]) _ rfl _ _ rfl _ _ n rfl rfl rfl rfl (by omega) (by omega) ?_;intro w1 sp1 hb1)
 go_loopw [12] (fun i wr=>∃ k:Nat,k≤n∧i=.int .i64 k∧∃ ce Ls,SlP zab 85 wr w.heap.size w.heap.size n n k x ce Ls∧Below w.heap.size w wr) (fun i _=>n-(intOf i).toNat)
 case atStart=>exact ⟨0,Nat.zero_le _,rfl,_,_,sp1,hb1⟩
 case round=>
  clear sp1 hb1;obtain ⟨k,hk,rfl,ce,Ls,sp,hb⟩:=hrel
  by_cases hlt:k<n
  ·obtain ⟨b,off,rfl,hblt,hel⟩:=hc (by omega)
   obtain ⟨ck,hrk,hcell⟩:=zat (t:=0) hel hb hhi hblt hlt;obtain ⟨ao6,cap6,ao7,cap7,ao8,cap8,rfl,-⟩:=zaD hrk;have c0:wr.cell? ⟨b,off+k*9,none⟩=some (.int .i64 (x k).kind):=hcell 0 (by decide);have c1:wr.cell? ⟨b,off+k*9+1,none⟩=some (.int .i64 (x k).seq):=hcell 1 (by decide);have c2:wr.cell? ⟨b,off+k*9+2,none⟩=some (.string (x k).name):=hcell 2 (by decide);have c3:wr.cell? ⟨b,off+k*9+3,none⟩=some (.int .i64 (x k).length):=hcell 3 (by decide);have c4:wr.cell? ⟨b,off+k*9+4,none⟩=some (.int .i64 (x k).group):=hcell 4 (by decide);have c5:wr.cell? ⟨b,off+k*9+5,none⟩=some (.int .i64 (x k).row):=hcell 5 (by decide);have c6:wr.cell? ⟨b,off+k*9+6,none⟩=some (.slice ao6 (x k).rows.1 cap6):=hcell 6 (by decide);have c7:wr.cell? ⟨b,off+k*9+7,none⟩=some (.slice ao7 (x k).data.1 cap7):=hcell 7 (by decide);have c8:wr.cell? ⟨b,off+k*9+8,none⟩=some (.slice ao8 (x k).delta.1 cap8):=hcell 8 (by decide);clear hc hel hcell
   go_wp2_with fail
   refine (zkC _ (x k) hi wr hrk (Nat.le_trans hhi hb.size) (hn2 k hlt)).mono ?_;rintro e w2 ⟨cs',rfl,o2,hb2⟩;obtain ⟨bao6,bcap6,bao7,bcap7,bao8,bcap8,rfl⟩:=zfk o2;obtain ⟨z0,s0⟩:=sp.some hb2 hlt (show 0<zab.sz by decide);have s0:w2.cell? ⟨w.heap.size,k*9,none⟩=some z0:=s0;have sf0:=(sp.below hb2).frozen (k*9);obtain ⟨z1,s1⟩:=sp.some hb2 hlt (show 1<zab.sz by decide);have s1:w2.cell? ⟨w.heap.size,k*9+1,none⟩=some z1:=s1;have sf1:=(sp.below hb2).frozen (k*9+1);obtain ⟨z2,s2⟩:=sp.some hb2 hlt (show 2<zab.sz by decide);have s2:w2.cell? ⟨w.heap.size,k*9+2,none⟩=some z2:=s2;have sf2:=(sp.below hb2).frozen (k*9+2);obtain ⟨z3,s3⟩:=sp.some hb2 hlt (show 3<zab.sz by decide);have s3:w2.cell? ⟨w.heap.size,k*9+3,none⟩=some z3:=s3;have sf3:=(sp.below hb2).frozen (k*9+3);obtain ⟨z4,s4⟩:=sp.some hb2 hlt (show 4<zab.sz by decide);have s4:w2.cell? ⟨w.heap.size,k*9+4,none⟩=some z4:=s4;have sf4:=(sp.below hb2).frozen (k*9+4);obtain ⟨z5,s5⟩:=sp.some hb2 hlt (show 5<zab.sz by decide);have s5:w2.cell? ⟨w.heap.size,k*9+5,none⟩=some z5:=s5;have sf5:=(sp.below hb2).frozen (k*9+5);obtain ⟨z6,s6⟩:=sp.some hb2 hlt (show 6<zab.sz by decide);have s6:w2.cell? ⟨w.heap.size,k*9+6,none⟩=some z6:=s6;have sf6:=(sp.below hb2).frozen (k*9+6);obtain ⟨z7,s7⟩:=sp.some hb2 hlt (show 7<zab.sz by decide);have s7:w2.cell? ⟨w.heap.size,k*9+7,none⟩=some z7:=s7;have sf7:=(sp.below hb2).frozen (k*9+7);obtain ⟨z8,s8⟩:=sp.some hb2 hlt (show 8<zab.sz by decide);have s8:w2.cell? ⟨w.heap.size,k*9+8,none⟩=some z8:=s8;have sf8:=(sp.below hb2).frozen (k*9+8);have N:=sp.next hb2 hlt o2 hb.size;have N2:Below w.heap.size w (stN w2 w.heap.size (k*zab.sz) [.int .i64 (x k).kind,.int .i64 (x k).seq,.string (x k).name,.int .i64 (x k).length,.int .i64 (x k).group,.int .i64 (x k).row,.slice bao6 (x k).rows.1 bcap6,.slice bao7 (x k).data.1 bcap7,.slice bao8 (x k).delta.1 bcap8]):=(hb.trans (hb2.mono hb.size)).trans (za1 (Nat.le_refl _) _ _);clear o2 hb2 sp hb
   go_wp2_with fail
   go_roundw
   case rel=>
    obtain ⟨ce',Ls',N⟩:=N;exact ⟨k+1,by omega,by go_num,ce',Ls',N,N2⟩
   case measure=>simp [intOf];omega
  ·obtain rfl:k=n:=by omega
   go_wp2;go_ret;exact ⟨_,rfl,sp.done (Nat.le_refl _),hb⟩
set_option maxRecDepth 20000 in
theorem zjj:ToV zaj za9 132:=fun cs d hi w r hhi hn=>by
 obtain ⟨ao1,cap1,rfl,h1⟩:=zbq r;clear r;unfold za9 at hn;have R1:=hid h1;clear h1;have T0:=zaz w #[.bool d.wiped,.slice ao1 d.recs.1 cap1] #[.bool false,.slice none 0 0] 80 80
 go_enter Tryz.func132,Tryz.ntmps132
 go_wp2_with fail
 refine (zji _ d.recs hi _ ((zab.slice 85).rd_below R1.out T0.bel hhi) (Nat.le_trans hhi T0.bel.size) (by omega)).mono ?_;rintro e w1 ⟨v0,rfl,o0,b0⟩;obtain ⟨bo1,bcap1,hv⟩:=zb9 o0;obtain rfl:=za2 hv;clear hv;have T0c:=T0.call b0;have z0:=T0.b2.lt;have y0:=b0.size;have c0_1:w1.cell? ⟨w.heap.size,1,none⟩=some (.slice ao1 d.recs.1 cap1):=T0c.b1.cell 1;have c0f_1:w1.frozen? ⟨w.heap.size,1,none⟩=false:=T0c.b1.frozen 1;have T1x:Two w (w1.setCell ⟨w.heap.size,1,none⟩ (.slice bo1 d.recs.1 bcap1)) #[.bool d.wiped,.slice bo1 d.recs.1 bcap1] #[.bool false,.slice none 0 0] 80 80:=⟨T0c.b1.stL [.slice bo1 d.recs.1 bcap1] 1,T0c.b2.seto _ _ (by omega),T0c.bel.setCell (Nat.le_refl _) _⟩;have O1_0:=(o0.stN w.heap.size 1 [.slice bo1 d.recs.1 bcap1] (by omega))
 have e1:(w1.setCell ⟨w.heap.size,1,none⟩ (.slice bo1 d.recs.1 bcap1)).heap.size=w1.heap.size:=by simp
 clear o0 b0
 go_upto_region 2 with fail
 obtain ⟨W1,hW1⟩:∃ x,x=w1.setCell ⟨w.heap.size,1,none⟩ (.slice bo1 d.recs.1 bcap1):=⟨_,rfl⟩
 have O1:Hid (OwnT (zab.slice 85) W1 (w.heap.size+1+1) (w1.heap.size) d.recs [.slice bo1 d.recs.1 bcap1]):=by rw [hW1];exact OwnT.weaken O1_0 (by simp) (Nat.le_refl _)
 rw [← hW1] at T1x e1 ⊢;clear hW1 O1_0 T0c c0_1 c0f_1;have y_0:W1.cell? ⟨w.heap.size,0,none⟩=some (.bool d.wiped):=T1x.b1.cell 0;have y_1:W1.cell? ⟨w.heap.size,1,none⟩=some (.slice bo1 d.recs.1 bcap1):=T1x.b1.cell 1;have r_0:W1.cell? ⟨w.heap.size+1,0,none⟩=some (.bool false):=T1x.b2.cell 0;have rf_0:W1.frozen? ⟨w.heap.size+1,0,none⟩=false:=T1x.b2.frozen 0;have r_1:W1.cell? ⟨w.heap.size+1,1,none⟩=some (.slice none 0 0):=T1x.b2.cell 1;have rf_1:W1.frozen? ⟨w.heap.size+1,1,none⟩=false:=T1x.b2.frozen 1;have HB:=hid T1x.bel;have zz:=T1x.b2.lt;clear T1x;go_wp2;refine bodyPost_ret (v:=.agg #[.bool d.wiped,.slice bo1 d.recs.1 bcap1]) (by simp [results,Tryz.results132,go_sem,r_0,y_0,r_1,y_1]) rfl ?_;have F:OwnT zaj W1 (w.heap.size+1+1) w1.heap.size d ([.bool d.wiped]++[.slice bo1 d.recs.1 bcap1]):=OwnT.conv (OwnT.pre (A:=layB) (a:=d.wiped) (c:=[.bool d.wiped]) ⟨rfl,trivial,rfl⟩ O1.out);refine ⟨[.bool d.wiped,.slice bo1 d.recs.1 bcap1],rfl,?_,?_⟩
 ·exact OwnT.finb (F.weaken (Nat.le_refl _) (by omega)) (b:=w.heap.size+1) (by omega) (by omega) 0 [.bool d.wiped,.slice bo1 d.recs.1 bcap1] _ rfl
 ·exact HB.out.trans (za1 (by omega) [.bool d.wiped,.slice bo1 d.recs.1 bcap1] 0)
set_option maxRecDepth 20000 in
theorem zh3:ToF (zaj.slice 80) (szSl za9) 131 132:=fun v d hi w h hhi hn=>by
 obtain ⟨n,x⟩:=d;obtain ⟨ao,cap,hv,hm,hc⟩:=h
 cases hv
 have hn1:=zcK hn;have hn2:∀ i,i<n→za9 (x i)≤1048576:=fun i hi=>zbK hn hi
 simp only at hn1 hm hc
 clear hn
 go_enter Tryz.func131,Tryz.ntmps131
 go_wp2_with (at_make;refine zcq zaj [.bool false,.slice none 0 0] _ 80 32 (zi5).hs rfl Tryz.underlying32 (zi5).hi x (fun _=>[]) _ rfl _ _ rfl _ _ n rfl rfl rfl rfl (by omega) (by omega) ?_;intro w1 sp1 hb1)
 go_loopw [12] (fun i wr=>∃ k:Nat,k≤n∧i=.int .i64 k∧∃ ce Ls,SlP zaj 80 wr w.heap.size w.heap.size n n k x ce Ls∧Below w.heap.size w wr) (fun i _=>n-(intOf i).toNat)
 case atStart=>exact ⟨0,Nat.zero_le _,rfl,_,_,sp1,hb1⟩
 case round=>
  clear sp1 hb1;obtain ⟨k,hk,rfl,ce,Ls,sp,hb⟩:=hrel
  by_cases hlt:k<n
  ·obtain ⟨b,off,rfl,hblt,hel⟩:=hc (by omega)
   obtain ⟨ck,hrk,hcell⟩:=zat (t:=0) hel hb hhi hblt hlt;obtain ⟨ao1,cap1,rfl,-⟩:=zbq hrk;have c0:wr.cell? ⟨b,off+k*2,none⟩=some (.bool (x k).wiped):=hcell 0 (by decide);have c1:wr.cell? ⟨b,off+k*2+1,none⟩=some (.slice ao1 (x k).recs.1 cap1):=hcell 1 (by decide);clear hc hel hcell
   go_wp2_with fail
   refine (zjj _ (x k) hi wr hrk (Nat.le_trans hhi hb.size) (hn2 k hlt)).mono ?_;rintro e w2 ⟨cs',rfl,o2,hb2⟩;obtain ⟨bao1,bcap1,rfl⟩:=zgi o2;obtain ⟨z0,s0⟩:=sp.some hb2 hlt (show 0<zaj.sz by decide);have s0:w2.cell? ⟨w.heap.size,k*2,none⟩=some z0:=s0;have sf0:=(sp.below hb2).frozen (k*2);obtain ⟨z1,s1⟩:=sp.some hb2 hlt (show 1<zaj.sz by decide);have s1:w2.cell? ⟨w.heap.size,k*2+1,none⟩=some z1:=s1;have sf1:=(sp.below hb2).frozen (k*2+1);have N:=sp.next hb2 hlt o2 hb.size;have N2:Below w.heap.size w (stN w2 w.heap.size (k*zaj.sz) [.bool (x k).wiped,.slice bao1 (x k).recs.1 bcap1]):=(hb.trans (hb2.mono hb.size)).trans (za1 (Nat.le_refl _) _ _);clear o2 hb2 sp hb
   go_wp2_with fail
   go_roundw
   case rel=>
    obtain ⟨ce',Ls',N⟩:=N;exact ⟨k+1,by omega,by go_num,ce',Ls',N,N2⟩
   case measure=>simp [intOf];omega
  ·obtain rfl:k=n:=by omega
   go_wp2;go_ret;exact ⟨_,rfl,sp.done (Nat.le_refl _),hb⟩
set_option maxRecDepth 20000 in
theorem zf8:ToV zan zaR 38:=fun cs d hi w r hhi hn=>by
 obtain ⟨ao1,cap1,rfl,h1,k0⟩:=zbz r;clear r;unfold zaR lenD at hn;have Q0:=hid k0;clear k0;have T0:=zaz w #[.int .i64 d.stamp,.slice ao1 d.bytes.1 cap1] #[.int .i64 0,.slice none 0 0] 76 76;obtain ⟨W0,hW0⟩:∃ x,x=(w.alloc (.cells #[.int .i64 d.stamp,.slice ao1 d.bytes.1 cap1] 76)).alloc (.cells #[.int .i64 0,.slice none 0 0] 76):=⟨_,rfl⟩;rw [← hW0] at T0;have bA:=bAl W0 (.cells #[] 5);have TA:=T0.call bA
 have z0:W0.heap.size=w.heap.size+1+1:=by rw [hW0];simp
 obtain ⟨v',w1,hrun,o1,b1'⟩:=zdE 74 (W0.alloc (.cells #[] 5)).drew W0.heap.size (zfx W0 5) (zag.rd_below (B:=hi) (zag.rd_below h1 TA.bel hhi) ⟨rfl,rfl,rfl,Nat.le_refl _,fun _ _=>rfl⟩ (Nat.le_refl _)) (show d.bytes.1≤10000000 by omega);have b1:Below W0.heap.size (W0.alloc (.cells #[] 5)) w1:=⟨b1'.os,b1'.tape,b1'.output,b1'.size,b1'.block⟩;obtain ⟨bo,bc,hv⟩:=zby o1;obtain rfl:=za2 hv;have T1:Two w w1 #[.int .i64 d.stamp,.slice ao1 d.bytes.1 cap1] #[.int .i64 0,.slice none 0 0] 76 76:=⟨TA.b1.below b1 (by omega),TA.b2.below b1 (by omega),TA.bel.trans (b1.mono (by omega))⟩;have x0_0:W0.cell? ⟨w.heap.size,0,none⟩=some (.int .i64 d.stamp):=T0.b1.cell 0;have x0_1:W0.cell? ⟨w.heap.size,1,none⟩=some (.slice ao1 d.bytes.1 cap1):=T0.b1.cell 1;have xa_0:(W0.alloc (.cells #[] 5)).cell? ⟨w.heap.size,0,none⟩=some (.int .i64 d.stamp):=TA.b1.cell 0;have xa_1:(W0.alloc (.cells #[] 5)).cell? ⟨w.heap.size,1,none⟩=some (.slice ao1 d.bytes.1 cap1):=TA.b1.cell 1;have x1_0:w1.cell? ⟨w.heap.size,0,none⟩=some (.int .i64 d.stamp):=T1.b1.cell 0;have x1_1:w1.cell? ⟨w.heap.size,1,none⟩=some (.slice ao1 d.bytes.1 cap1):=T1.b1.cell 1;have r1_0:w1.cell? ⟨w.heap.size+1,0,none⟩=some (.int .i64 0):=T1.b2.cell 0;have r1f_0:w1.frozen? ⟨w.heap.size+1,0,none⟩=false:=T1.b2.frozen 0;have r1_1:w1.cell? ⟨w.heap.size+1,1,none⟩=some (.slice none 0 0):=T1.b2.cell 1;have r1f_1:w1.frozen? ⟨w.heap.size+1,1,none⟩=false:=T1.b2.frozen 1;have HO:=hid o1;have HT:=hid T1;have zw:W0.heap.size≤w1.heap.size:=Nat.le_trans bA.size b1.size;clear T0 TA T1 o1 b1 b1' bA h1 hv
 go_enter Tryz.func38,Tryz.ntmps38
 go_upto_region 1 with fail
 rw [← hW0];clear hW0
 go_region_law (refine za4 rfl (.tmp 5) (.tmp 7) rfl ?_ ?_ hrun ?_;(simp [Act.eval,Act.put]);(simp [Act.eval,Act.put]))
 all_goals
  go_wp2;refine bodyPost_ret (v:=.agg #[.int .i64 d.stamp,.slice bo d.bytes.1 bc]) (by simp [results,Tryz.results38,go_sem,r1_0,r1_1]) rfl ?_;have F:OwnT zan w1 (w.heap.size+1+1) w1.heap.size d ([.int .i64 d.stamp]++[.slice bo d.bytes.1 bc]):=OwnT.conv (OwnT.pre (A:=layI) (a:=d.stamp) (c:=[.int .i64 d.stamp]) ⟨rfl,Q0.out,rfl⟩ (HO.out.weaken (by omega) (Nat.le_refl _)));refine ⟨[.int .i64 d.stamp,.slice bo d.bytes.1 bc],rfl,?_,?_⟩
  ·exact OwnT.finb F (b:=w.heap.size+1) (by omega) (by omega) 0 [.int .i64 d.stamp,.slice bo d.bytes.1 bc] _ rfl
  ·exact HT.out.bel.trans (za1 (by omega) [.int .i64 d.stamp,.slice bo d.bytes.1 bc] 0)
set_option maxRecDepth 20000 in
theorem zh4:ToV zab zbl 69:=fun cs d hi w r hhi hn=>by
 obtain ⟨ao6,cap6,ao7,cap7,ao8,cap8,rfl,h6,h7,h8,k0,k1,k2,k3,k4,k5⟩:=zaD r;clear r;unfold zbl lenD at hn;have Q0:=hid k0;have Q1:=hid k1;have Q3:=hid k3;have Q4:=hid k4;have Q5:=hid k5;have Q2:=hid k2;clear k0 k1 k2 k3 k4 k5;have T0:=zaz w (rwR d ao6 cap6 ao7 cap7 ao8 cap8).toArray #[.int .i64 0,.int .i64 0,.string ⟨#[]⟩,.int .i64 0,.int .i64 0,.int .i64 0,.slice none 0 0,.slice none 0 0,.slice none 0 0] 85 85
 go_enter Tryz.func69,Tryz.ntmps69
 go_upto_region 1 with fail
 obtain ⟨W0,hW0⟩:∃ x,x=(w.alloc (.cells (rwR d ao6 cap6 ao7 cap7 ao8 cap8).toArray 85)).alloc (.cells #[.int .i64 0,.int .i64 0,.string ⟨#[]⟩,.int .i64 0,.int .i64 0,.int .i64 0,.slice none 0 0,.slice none 0 0,.slice none 0 0] 85):=⟨_,rfl⟩
 have z0:W0.heap.size=w.heap.size+1+1:=by rw [hW0];simp
 rw [← hW0] at T0 ⊢;clear hW0;have bA0:=bAl W0 (.cells #[] 2);have TA0:=T0.call bA0;obtain ⟨v',w1,hrun,o0,b0⟩:=zeU 25 (W0.alloc (.cells #[] 2)) W0.heap.size (zfx W0 2) (zao.rd_below h6 TA0.bel hhi) (show d.rows.1≤10000000 by omega);obtain ⟨bo6,bcap6,hv⟩:=zcH o0;obtain rfl:=za2 hv;clear hv;have zw0:W0.heap.size+1≤w1.heap.size:=Nat.le_trans (by simp) b0.size;have TB0:Two w w1 (rwR d ao6 cap6 ao7 cap7 ao8 cap8).toArray #[.int .i64 0,.int .i64 0,.string ⟨#[]⟩,.int .i64 0,.int .i64 0,.int .i64 0,.slice none 0 0,.slice none 0 0,.slice none 0 0] 85 85:=⟨TA0.b1.below b0 (by omega),TA0.b2.below b0 (by omega),TA0.bel.trans (b0.mono (by omega))⟩;have xa:(W0.alloc (.cells #[] 2)).cell? ⟨w.heap.size,6,none⟩=some (.slice ao6 d.rows.1 cap6):=TA0.b1.cell 6;have xb:w1.cell? ⟨w.heap.size,6,none⟩=some (.slice ao6 d.rows.1 cap6):=TB0.b1.cell 6;have xf:w1.frozen? ⟨w.heap.size,6,none⟩=false:=TB0.b1.frozen 6;have T1:Two w (w1.setCell ⟨w.heap.size,6,none⟩ (.slice bo6 d.rows.1 bcap6)) (rwR d bo6 bcap6 ao7 cap7 ao8 cap8).toArray #[.int .i64 0,.int .i64 0,.string ⟨#[]⟩,.int .i64 0,.int .i64 0,.int .i64 0,.slice none 0 0,.slice none 0 0,.slice none 0 0] 85 85:=⟨TB0.b1.stL [.slice bo6 d.rows.1 bcap6] 6,TB0.b2.seto _ _ (by omega),TB0.bel.setCell (Nat.le_refl _) _⟩;have O6x:=o0.stN w.heap.size 6 [.slice bo6 d.rows.1 bcap6] (by omega)
 have e0:(w1.setCell ⟨w.heap.size,6,none⟩ (.slice bo6 d.rows.1 bcap6)).heap.size=w1.heap.size:=by simp
 clear TA0 TB0 o0 b0 bA0 T0
 go_upto_region 2 with (at_builtin;refine zcm rfl (.tmp 3) (.tmp 5) rfl ?_ ?_ hrun ?_;(simp [Act.eval]);(simp [Act.eval]))
 obtain ⟨W1,hW1⟩:∃ x,x=w1.setCell ⟨w.heap.size,6,none⟩ (.slice bo6 d.rows.1 bcap6):=⟨_,rfl⟩
 have O6:Hid (OwnT zao W1 W0.heap.size w1.heap.size d.rows [.slice bo6 d.rows.1 bcap6]):=by rw [hW1];exact O6x
 rw [← hW1] at T1 e0 ⊢;clear hW1 hrun xa xb xf O6x;have bA1:=bAl W1 (.cells #[] 5);have TA1:=T1.call bA1;obtain ⟨v',w2,hrun,o1,b1⟩:=zdE 74 (W1.alloc (.cells #[] 5)) W1.heap.size (zfx W1 5) (zag.rd_below h7 TA1.bel hhi) (show d.data.1≤10000000 by omega);obtain ⟨bo7,bcap7,hv⟩:=zby o1;obtain rfl:=za2 hv;clear hv;have zw1:W1.heap.size+1≤w2.heap.size:=Nat.le_trans (by simp) b1.size;have TB1:Two w w2 (rwR d bo6 bcap6 ao7 cap7 ao8 cap8).toArray #[.int .i64 0,.int .i64 0,.string ⟨#[]⟩,.int .i64 0,.int .i64 0,.int .i64 0,.slice none 0 0,.slice none 0 0,.slice none 0 0] 85 85:=⟨TA1.b1.below b1 (by omega),TA1.b2.below b1 (by omega),TA1.bel.trans (b1.mono (by omega))⟩;have xa:(W1.alloc (.cells #[] 5)).cell? ⟨w.heap.size,7,none⟩=some (.slice ao7 d.data.1 cap7):=TA1.b1.cell 7;have xb:w2.cell? ⟨w.heap.size,7,none⟩=some (.slice ao7 d.data.1 cap7):=TB1.b1.cell 7;have xf:w2.frozen? ⟨w.heap.size,7,none⟩=false:=TB1.b1.frozen 7;have T2:Two w (w2.setCell ⟨w.heap.size,7,none⟩ (.slice bo7 d.data.1 bcap7)) (rwR d bo6 bcap6 bo7 bcap7 ao8 cap8).toArray #[.int .i64 0,.int .i64 0,.string ⟨#[]⟩,.int .i64 0,.int .i64 0,.int .i64 0,.slice none 0 0,.slice none 0 0,.slice none 0 0] 85 85:=⟨TB1.b1.stL [.slice bo7 d.data.1 bcap7] 7,TB1.b2.seto _ _ (by omega),TB1.bel.setCell (Nat.le_refl _) _⟩;have O6x:=((O6.out.call bA1).below b1 (by omega)).stN w.heap.size 7 [.slice bo7 d.data.1 bcap7] (by omega);have O7x:=o1.stN w.heap.size 7 [.slice bo7 d.data.1 bcap7] (by omega)
 have e1:(w2.setCell ⟨w.heap.size,7,none⟩ (.slice bo7 d.data.1 bcap7)).heap.size=w2.heap.size:=by simp
 clear TA1 TB1 o1 b1 bA1 T1 O6
 go_upto_region 3 with (at_builtin;refine zcm rfl (.tmp 8) (.tmp 10) rfl ?_ ?_ hrun ?_;(simp [Act.eval]);(simp [Act.eval]))
 obtain ⟨W2,hW2⟩:∃ x,x=w2.setCell ⟨w.heap.size,7,none⟩ (.slice bo7 d.data.1 bcap7):=⟨_,rfl⟩
 have O6:Hid (OwnT zao W2 W0.heap.size w1.heap.size d.rows [.slice bo6 d.rows.1 bcap6]):=by rw [hW2];exact O6x
 have O7:Hid (OwnT zag W2 W1.heap.size w2.heap.size d.data [.slice bo7 d.data.1 bcap7]):=by rw [hW2];exact O7x
 rw [← hW2] at T2 e1 ⊢;clear hW2 hrun xa xb xf O6x O7x;have bA2:=bAl W2 (.cells #[] 5);have TA2:=T2.call bA2;obtain ⟨v',w3,hrun,o2,b2⟩:=zdE 74 (W2.alloc (.cells #[] 5)) W2.heap.size (zfx W2 5) (zag.rd_below h8 TA2.bel hhi) (show d.delta.1≤10000000 by omega);obtain ⟨bo8,bcap8,hv⟩:=zby o2;obtain rfl:=za2 hv;clear hv;have zw2:W2.heap.size+1≤w3.heap.size:=Nat.le_trans (by simp) b2.size;have TB2:Two w w3 (rwR d bo6 bcap6 bo7 bcap7 ao8 cap8).toArray #[.int .i64 0,.int .i64 0,.string ⟨#[]⟩,.int .i64 0,.int .i64 0,.int .i64 0,.slice none 0 0,.slice none 0 0,.slice none 0 0] 85 85:=⟨TA2.b1.below b2 (by omega),TA2.b2.below b2 (by omega),TA2.bel.trans (b2.mono (by omega))⟩;have xa:(W2.alloc (.cells #[] 5)).cell? ⟨w.heap.size,8,none⟩=some (.slice ao8 d.delta.1 cap8):=TA2.b1.cell 8;have xb:w3.cell? ⟨w.heap.size,8,none⟩=some (.slice ao8 d.delta.1 cap8):=TB2.b1.cell 8;have xf:w3.frozen? ⟨w.heap.size,8,none⟩=false:=TB2.b1.frozen 8;have T3:Two w (w3.setCell ⟨w.heap.size,8,none⟩ (.slice bo8 d.delta.1 bcap8)) (rwR d bo6 bcap6 bo7 bcap7 bo8 bcap8).toArray #[.int .i64 0,.int .i64 0,.string ⟨#[]⟩,.int .i64 0,.int .i64 0,.int .i64 0,.slice none 0 0,.slice none 0 0,.slice none 0 0] 85 85:=⟨TB2.b1.stL [.slice bo8 d.delta.1 bcap8] 8,TB2.b2.seto _ _ (by omega),TB2.bel.setCell (Nat.le_refl _) _⟩;have O6x:=((O6.out.call bA2).below b2 (by omega)).stN w.heap.size 8 [.slice bo8 d.delta.1 bcap8] (by omega);have O7x:=((O7.out.call bA2).below b2 (by omega)).stN w.heap.size 8 [.slice bo8 d.delta.1 bcap8] (by omega);have O8x:=o2.stN w.heap.size 8 [.slice bo8 d.delta.1 bcap8] (by omega)
 have e2:(w3.setCell ⟨w.heap.size,8,none⟩ (.slice bo8 d.delta.1 bcap8)).heap.size=w3.heap.size:=by simp
 clear TA2 TB2 o2 b2 bA2 T2 O6 O7
 go_upto_region 4 with (at_builtin;refine zcm rfl (.tmp 13) (.tmp 15) rfl ?_ ?_ hrun ?_;(simp [Act.eval]);(simp [Act.eval]))
 obtain ⟨W3,hW3⟩:∃ x,x=w3.setCell ⟨w.heap.size,8,none⟩ (.slice bo8 d.delta.1 bcap8):=⟨_,rfl⟩
 have O6:Hid (OwnT zao W3 W0.heap.size w1.heap.size d.rows [.slice bo6 d.rows.1 bcap6]):=by rw [hW3];exact O6x
 have O7:Hid (OwnT zag W3 W1.heap.size w2.heap.size d.data [.slice bo7 d.data.1 bcap7]):=by rw [hW3];exact O7x
 have O8:Hid (OwnT zag W3 W2.heap.size w3.heap.size d.delta [.slice bo8 d.delta.1 bcap8]):=by rw [hW3];exact O8x
 rw [← hW3] at T3 e2 ⊢;clear hW3 hrun xa xb xf O6x O7x O8x;have y_0:W3.cell? ⟨w.heap.size,0,none⟩=some (.int .i64 d.kind):=T3.b1.cell 0;have y_1:W3.cell? ⟨w.heap.size,1,none⟩=some (.int .i64 d.seq):=T3.b1.cell 1;have y_2:W3.cell? ⟨w.heap.size,2,none⟩=some (.string d.name):=T3.b1.cell 2;have y_3:W3.cell? ⟨w.heap.size,3,none⟩=some (.int .i64 d.length):=T3.b1.cell 3;have y_4:W3.cell? ⟨w.heap.size,4,none⟩=some (.int .i64 d.group):=T3.b1.cell 4;have y_5:W3.cell? ⟨w.heap.size,5,none⟩=some (.int .i64 d.row):=T3.b1.cell 5;have y_6:W3.cell? ⟨w.heap.size,6,none⟩=some (.slice bo6 d.rows.1 bcap6):=T3.b1.cell 6;have y_7:W3.cell? ⟨w.heap.size,7,none⟩=some (.slice bo7 d.data.1 bcap7):=T3.b1.cell 7;have y_8:W3.cell? ⟨w.heap.size,8,none⟩=some (.slice bo8 d.delta.1 bcap8):=T3.b1.cell 8;have r_0:W3.cell? ⟨w.heap.size+1,0,none⟩=some (.int .i64 0):=T3.b2.cell 0;have rf_0:W3.frozen? ⟨w.heap.size+1,0,none⟩=false:=T3.b2.frozen 0;have r_1:W3.cell? ⟨w.heap.size+1,1,none⟩=some (.int .i64 0):=T3.b2.cell 1;have rf_1:W3.frozen? ⟨w.heap.size+1,1,none⟩=false:=T3.b2.frozen 1;have r_2:W3.cell? ⟨w.heap.size+1,2,none⟩=some (.string ⟨#[]⟩):=T3.b2.cell 2;have rf_2:W3.frozen? ⟨w.heap.size+1,2,none⟩=false:=T3.b2.frozen 2;have r_3:W3.cell? ⟨w.heap.size+1,3,none⟩=some (.int .i64 0):=T3.b2.cell 3;have rf_3:W3.frozen? ⟨w.heap.size+1,3,none⟩=false:=T3.b2.frozen 3;have r_4:W3.cell? ⟨w.heap.size+1,4,none⟩=some (.int .i64 0):=T3.b2.cell 4;have rf_4:W3.frozen? ⟨w.heap.size+1,4,none⟩=false:=T3.b2.frozen 4;have r_5:W3.cell? ⟨w.heap.size+1,5,none⟩=some (.int .i64 0):=T3.b2.cell 5;have rf_5:W3.frozen? ⟨w.heap.size+1,5,none⟩=false:=T3.b2.frozen 5;have r_6:W3.cell? ⟨w.heap.size+1,6,none⟩=some (.slice none 0 0):=T3.b2.cell 6;have rf_6:W3.frozen? ⟨w.heap.size+1,6,none⟩=false:=T3.b2.frozen 6;have r_7:W3.cell? ⟨w.heap.size+1,7,none⟩=some (.slice none 0 0):=T3.b2.cell 7;have rf_7:W3.frozen? ⟨w.heap.size+1,7,none⟩=false:=T3.b2.frozen 7;have r_8:W3.cell? ⟨w.heap.size+1,8,none⟩=some (.slice none 0 0):=T3.b2.cell 8;have rf_8:W3.frozen? ⟨w.heap.size+1,8,none⟩=false:=T3.b2.frozen 8;have HB:=hid T3.bel;clear T3;go_wp2;refine bodyPost_ret (v:=.agg (rwR d bo6 bcap6 bo7 bcap7 bo8 bcap8).toArray) (by simp [results,Tryz.results69,go_sem,r_0,y_0,r_1,y_1,r_2,y_2,r_3,y_3,r_4,y_4,r_5,y_5,r_6,y_6,r_7,y_7,r_8,y_8]) rfl ?_;have F:OwnT zab W3 (w.heap.size+1+1) W3.heap.size d ([.int .i64 d.kind]++([.int .i64 d.seq]++([.string d.name]++([.int .i64 d.length]++([.int .i64 d.group]++([.int .i64 d.row]++([.slice bo6 d.rows.1 bcap6]++([.slice bo7 d.data.1 bcap7]++[.slice bo8 d.delta.1 bcap8])))))))):=OwnT.conv (OwnT.pre (A:=layI) (a:=d.kind) (c:=[.int .i64 d.kind]) ⟨rfl,Q0.out,rfl⟩ (OwnT.pre (A:=layI) (a:=d.seq) (c:=[.int .i64 d.seq]) ⟨rfl,Q1.out,rfl⟩ (OwnT.pre (A:=layS) (a:=d.name) (c:=[.string d.name]) ⟨rfl,Q2.out,rfl⟩ (OwnT.pre (A:=layI) (a:=d.length) (c:=[.int .i64 d.length]) ⟨rfl,Q3.out,rfl⟩ (OwnT.pre (A:=layI) (a:=d.group) (c:=[.int .i64 d.group]) ⟨rfl,Q4.out,rfl⟩ (OwnT.pre (A:=layI) (a:=d.row) (c:=[.int .i64 d.row]) ⟨rfl,Q5.out,rfl⟩ (OwnT.two (O6.out.weaken (by omega) (Nat.le_refl _)) (OwnT.two O7.out (O8.out.weaken (Nat.le_refl _) (by omega)) (by omega) (by omega) (by omega)) (by omega) (by omega) (by omega))))))))
 refine ⟨(rwR d bo6 bcap6 bo7 bcap7 bo8 bcap8),rfl,?_,?_⟩
 ·exact OwnT.finb F (b:=w.heap.size+1) (by omega) (by omega) 0 (rwR d bo6 bcap6 bo7 bcap7 bo8 bcap8) _ rfl
 ·exact HB.out.trans (za1 (by omega) (rwR d bo6 bcap6 bo7 bcap7 bo8 bcap8) 0)
set_option maxRecDepth 20000 in
theorem zg4:ToS (zab.slice 85) (szSl zbl) 39:=fun v d hi w h hhi hn=>by
 obtain ⟨n,x⟩:=d;obtain ⟨ao,cap,hv,hm,hc⟩:=h
 cases hv
 have hn1:=zcK hn;have hn2:∀ i,i<n→zbl (x i)≤1048576:=fun i hi=>zbK hn hi
 simp only at hn1 hm hc
 have HC:=hid hc;clear hn hc
 go_enter Tryz.func39,Tryz.ntmps39
 go_wp2
 go_loopw [3,4] (fun v i wr=>∃ (k:Nat) (ao':Option Addr) (cap':Nat),k≤n∧i=.int .i64 k∧v=.slice ao' k cap'∧Gat zab 85 wr w.heap.size (.slice ao' k cap') k x∧Below w.heap.size w wr) (fun _ i _=>n-(intOf i).toNat)
 case atStart=>exact ⟨0,_,_,Nat.zero_le _,rfl,rfl,zjV _ _,(Below.refl _ _).alloc (Nat.le_refl _) _⟩
 case round=>
  obtain ⟨k,ao',cap',hk,rfl,rfl,G,hb⟩:=hrel;obtain ⟨wo,rfl⟩:∃ y,y=wr:=⟨_,rfl⟩;have HG:=hid G;have HB:=hid hb;have zo:w.heap.size≤wo.heap.size:=hb.size;clear G
  by_cases hlt:k<n
  ·obtain ⟨b,off,he,hblt,hel⟩:=HC.out (by omega)
   subst he;obtain ⟨ck,hrk,hcell⟩:=zat (t:=0) hel hb hhi hblt hlt;obtain ⟨ao6,cap6,ao7,cap7,ao8,cap8,rfl,-⟩:=zaD hrk;have c0:wo.cell? ⟨b,off+k*9,none⟩=some (.int .i64 (x k).kind):=hcell 0 (by decide);have c1:wo.cell? ⟨b,off+k*9+1,none⟩=some (.int .i64 (x k).seq):=hcell 1 (by decide);have c2:wo.cell? ⟨b,off+k*9+2,none⟩=some (.string (x k).name):=hcell 2 (by decide);have c3:wo.cell? ⟨b,off+k*9+3,none⟩=some (.int .i64 (x k).length):=hcell 3 (by decide);have c4:wo.cell? ⟨b,off+k*9+4,none⟩=some (.int .i64 (x k).group):=hcell 4 (by decide);have c5:wo.cell? ⟨b,off+k*9+5,none⟩=some (.int .i64 (x k).row):=hcell 5 (by decide);have c6:wo.cell? ⟨b,off+k*9+6,none⟩=some (.slice ao6 (x k).rows.1 cap6):=hcell 6 (by decide);have c7:wo.cell? ⟨b,off+k*9+7,none⟩=some (.slice ao7 (x k).data.1 cap7):=hcell 7 (by decide);have c8:wo.cell? ⟨b,off+k*9+8,none⟩=some (.slice ao8 (x k).delta.1 cap8):=hcell 8 (by decide);have C:=zh4 _ (x k) hi wo hrk (Nat.le_trans hhi zo) (hn2 k hlt);clear hel hcell hrk hb
   go_wp2_with fail
   refine C.mono ?_;rintro e w2 ⟨cs',rfl,o2,b2⟩;obtain ⟨bo6,bc6,bo7,bc7,bo8,bc8,rfl⟩:=zfk o2;clear C c0 c1 c2 c3 c4 c5 c6 c7 c8
   go_wp2_with (at_builtin;refine zeG zcO rfl (.tmp 12) (.tmp 18) rfl (lo:=w.heap.size) (n:=k) (v:=.slice ao' k cap') (x:=x) ?_ HG.out b2 o2 ?_ w2.heap.size 1 ?_ (fun j _=>zcN w2 _ _ j) (by omega) (by omega) ?_;(simp [Act.eval]);(exact (Below.refl _ _).alloc (Nat.le_refl _) _);(simp [Act.eval]);intro v4 w4 g4 b4;obtain ⟨ao4,cap4,rfl⟩:=g4.form)
   go_roundw
   case rel=>exact ⟨k+1,ao4,cap4,by omega,by go_num,rfl,g4.congr (fun i _=>by rw [zcQ]),HB.out.trans b4⟩
   case measure=>simp [intOf];omega
  ·obtain rfl:k=n:=by omega
   clear hb;go_wp2;go_ret;exact ⟨_,rfl,HG.out.own,HB.out⟩
theorem zeo {E:Lay RecD} {T e:TypeId} {by_:Nat} {zs:List Value} (I:ElInfo E T e by_ zs) (ty:TypeId) {w:World} {lo m:Nat} {v:Value} {xs cs:List Value} (hr:w.ownsRow lo e E.sz v m xs) (hcs:cs.length=E.sz) (h1:∀ u,u∈cs→u.oneCell'=true) (b c:Nat) (hcell:∀ j,j<E.sz→w.cell? ⟨b,j,none⟩=cs[j]?) (hn:m≤10000000) (hlo:lo≤w.heap.size) :
 ∃ ao cap w',(Builtin.append_ #[T,T] ty #[v,.slice (some ⟨b,0,none⟩) 1 c]).run Tryz.prog w=.ok (.slice ao (m+1) cap) w'∧w'.ownsRow lo e E.sz (.slice ao (m+1) cap) (m+1) (xs++cs)∧Below lo w w':=by
 obtain ⟨hs,hzs,hu,hi,few⟩:=I
 obtain ⟨i0,hi0⟩:∃ i0,Tryz.prog.info? e=some i0:=by
  cases h:Tryz.prog.info? e with
  | none=>rw [h] at hi;cases hi
  | some i0=>exact ⟨i0,rfl⟩
 rw [hi0] at hi
 simp only [Option.map_some,Option.some.injEq,Prod.mk.injEq] at hi
 obtain ⟨g1,g2,g3⟩:=hi
 obtain ⟨z,hz,hzc⟩:∃ z,i0.zero=some z∧z.cells=zs.toArray:=by
  cases h:i0.zero with
  | none=>rw [h] at g1;cases g1
  | some z=>rw [h] at g1;exact ⟨z,rfl,by simpa using g1⟩
 obtain ⟨v',w',hrun,r1,r2,r3,r4⟩:=run_append_own_at (P:=Tryz.prog) w lo T ty e i0 z E.sz by_ hu hi0 hz g2 g3 (by rw [hzc];simpa using hzs) hs v m xs hr ⟨b,0,none⟩ 1 c cs (by rw [hcs,Nat.one_mul])
  (fun j u hj=>by
   have hlt:j<cs.length:=(List.getElem?_eq_some_iff.1 hj).1;have:=hcell j (by omega);rw [hj] at this;rw [znW]
   exact this) h1 (by unfold maxLen;omega) (by
    have:(m+1)*by_≤10000001*1000:=Nat.mul_le_mul (by omega) few
    omega) hlo
 have hf:∃ ao cap,v'=.slice ao (m+1) cap:=by
  rcases r1.2 with ⟨rfl,h0⟩ | ⟨g,cap,cur,rfl,_⟩
  ·omega
  ·exact ⟨_,_,rfl⟩
 obtain ⟨ao,cap,rfl⟩:=hf;exact ⟨ao,cap,w',hrun,r1,(Below.refl _ _).grown r2 hlo (fun k hk=>(hr.lt k hk).1)⟩
set_option maxRecDepth 20000 in
theorem zh5 (g cap n:Nat) (x:Nat→RecD) (ce:Nat→List Value) (Ls:Nat→List Nat) (kd sq:Int) (w:World) (hO:SlO zab 85 w g cap n x ce Ls) (hn:n≤1048576) :
 Calls Tryz.prog 75 #[.slice (some ⟨g,0,none⟩) n cap,.int .i64 kd,.int .i64 sq] w fun e w'=>∃ ao c,e=.returned (.slice ao (zai (fun i=>zaM kd sq (x i)) n).length c)∧w'.ownsRow w.heap.size 85 zab.sz (.slice ao (zai (fun i=>zaM kd sq (x i)) n).length c) (zai (fun i=>zaM kd sq (x i)) n).length (catN (zai (fun i=>zaM kd sq (x i)) n).length (fun i=>ce (selF (fun i=>zaM kd sq (x i)) n i)))∧Below w.heap.size w w':=by
 have h:=hid hO;have hg:=hO.lt;clear hO
 go_enter Tryz.func75,Tryz.ntmps75
 go_wp2
 go_loopw [7,8] (fun v z wr=>∃ (k:Nat) (ao:Option Addr) (c:Nat),k≤n∧z=.int .i64 k∧v=.slice ao (zai (fun i=>zaM kd sq (x i)) k).length c∧wr.ownsRow w.heap.size 85 zab.sz (.slice ao (zai (fun i=>zaM kd sq (x i)) k).length c) (zai (fun i=>zaM kd sq (x i)) k).length (catN (zai (fun i=>zaM kd sq (x i)) k).length (fun i=>ce (selF (fun i=>zaM kd sq (x i)) k i)))∧Below w.heap.size w wr) (fun _ z _=>n-(intOf z).toNat)
 case atStart=>
  refine ⟨0,some ⟨w.heap.size,0,none⟩,0,Nat.zero_le _,rfl,rfl,?_,(Below.refl _ _).alloc (Nat.le_refl _) _⟩;have h0:=World.ownsRow_lit (base:=w.heap.size) (e:=85) (size:=zab.sz) w #[] 0 (Nat.le_refl _) (Nat.zero_le _) (by simp)
  simpa [zai,zbp] using h0
 case round=>
  obtain ⟨k,ao,c,hk,rfl,rfl,hrw,hbl⟩:=hrel;obtain ⟨wx,rfl⟩:∃ y,y=wr:=⟨_,rfl⟩;have HRW:=hid hrw;have HBL:=hid hbl;have zx:=hbl.size
  by_cases hlt:k<n
  ·obtain ⟨ao6,cap6,ao7,cap7,ao8,cap8,K6,K7,K8,eR,-⟩:=zfj (h.out.each k hlt)
   have HCE:=hid eR;have S5:=h.out.kept (w':=wx) (fun b hb=>hbl.block b (h.out.mem_lt b hb));have s_0:wx.cell? ⟨g,k*9,none⟩=some (.int .i64 (x k).kind):=(S5.cell hlt (j:=0) (by decide)).trans (by rw [eR];rfl);have s_1:wx.cell? ⟨g,k*9+1,none⟩=some (.int .i64 (x k).seq):=(S5.cell hlt (j:=1) (by decide)).trans (by rw [eR];rfl);have s_2:wx.cell? ⟨g,k*9+2,none⟩=some (.string (x k).name):=(S5.cell hlt (j:=2) (by decide)).trans (by rw [eR];rfl);have s_3:wx.cell? ⟨g,k*9+3,none⟩=some (.int .i64 (x k).length):=(S5.cell hlt (j:=3) (by decide)).trans (by rw [eR];rfl);have s_4:wx.cell? ⟨g,k*9+4,none⟩=some (.int .i64 (x k).group):=(S5.cell hlt (j:=4) (by decide)).trans (by rw [eR];rfl);have s_5:wx.cell? ⟨g,k*9+5,none⟩=some (.int .i64 (x k).row):=(S5.cell hlt (j:=5) (by decide)).trans (by rw [eR];rfl);have s_6:wx.cell? ⟨g,k*9+6,none⟩=some (.slice ao6 (x k).rows.1 cap6):=(S5.cell hlt (j:=6) (by decide)).trans (by rw [eR];rfl);have s_7:wx.cell? ⟨g,k*9+7,none⟩=some (.slice ao7 (x k).data.1 cap7):=(S5.cell hlt (j:=7) (by decide)).trans (by rw [eR];rfl);have s_8:wx.cell? ⟨g,k*9+8,none⟩=some (.slice ao8 (x k).delta.1 cap8):=(S5.cell hlt (j:=8) (by decide)).trans (by rw [eR];rfl)
   have i1:(0:Int)≤(k:Int):=by omega
   have i2:(k:Int)<(n:Int):=by omega
   clear hrw hbl S5 eR
   by_cases hkd:(x k).kind=kd
   ·by_cases hsq:(x k).seq=sq
    ·have te1:((x k).kind != kd)=false:=by simpa using hkd
     have te2:((x k).seq != sq)=false:=by simpa using hsq
     have hpk:(fun i=>zaM kd sq (x i)) k=false:=by show zaM kd sq (x k)=false;unfold zaM;simp [hkd,hsq]
     have HSK:Hid (zai (fun i=>zaM kd sq (x i)) (k+1)=zai (fun i=>zaM kd sq (x i)) k):=zbM hpk;have HSE:Hid (∀ i,i<(zai (fun i=>zaM kd sq (x i)) k).length→selF (fun i=>zaM kd sq (x i)) (k+1) i=selF (fun i=>zaM kd sq (x i)) k i):=fun i hi=>zcZ hi;clear hpk hkd hsq;go_wp2
     go_roundw
     case rel=>
      refine ⟨k+1,ao,c,by omega,by go_num,by rw [HSK.out],?_,HBL.out⟩;rw [HSK.out,za7 (g:=fun i=>ce (selF (fun i=>zaM kd sq (x i)) k i)) (fun i hi=>by rw [HSE.out i hi])];exact HRW.out
     case measure=>simp [intOf];omega
    ·have te1:((x k).kind != kd)=false:=by simpa using hkd
     have te2:((x k).seq != sq)=true:=by simpa using hsq
     have HS:=hid hsq;have HK:Hid True:=trivial;clear hkd hsq
     skip
     have hpk:(fun i=>zaM kd sq (x i)) k=true:=by show zaM kd sq (x k)=true;unfold zaM;simp only [Bool.not_eq_true',Bool.and_eq_false_iff];first | exact .inl (by simpa using HK.out) | exact .inr (by simpa using HS.out)
     have hnext:(zai (fun i=>zaM kd sq (x i)) (k+1)).length=(zai (fun i=>zaM kd sq (x i)) k).length+1:=by rw [zbm,if_pos hpk];simp
     have hcat:catN (zai (fun i=>zaM kd sq (x i)) (k+1)).length (fun i=>ce (selF (fun i=>zaM kd sq (x i)) (k+1) i))=catN (zai (fun i=>zaM kd sq (x i)) k).length (fun i=>ce (selF (fun i=>zaM kd sq (x i)) k i))++ce k:=zlF hpk;have HNX:=hid hnext;have HCT:=hid hcat;have bB:Below w.heap.size w (wx.alloc (.cells #[.int .i64 (x k).kind,.int .i64 (x k).seq,.string (x k).name,.int .i64 (x k).length,.int .i64 (x k).group,.int .i64 (x k).row,.slice ao6 (x k).rows.1 cap6,.slice ao7 (x k).data.1 cap7,.slice ao8 (x k).delta.1 cap8] 85)):=HBL.out.alloc zx _;obtain ⟨ao',c',w4,hrun,r4,b4⟩:=zeo zcO 78 (HRW.out.alloc (.cells #[.int .i64 (x k).kind,.int .i64 (x k).seq,.string (x k).name,.int .i64 (x k).length,.int .i64 (x k).group,.int .i64 (x k).row,.slice ao6 (x k).rows.1 cap6,.slice ao7 (x k).data.1 cap7,.slice ao8 (x k).delta.1 cap8] 85)) (cs:=ce k) (by rw [HCE.out];rfl) (fun u hu=>zab.own_one (h.out.each k hlt) u hu) wx.heap.size 1 (fun j hj=>by rw [HCE.out];exact zcN wx [.int .i64 (x k).kind,.int .i64 (x k).seq,.string (x k).name,.int .i64 (x k).length,.int .i64 (x k).group,.int .i64 (x k).row,.slice ao6 (x k).rows.1 cap6,.slice ao7 (x k).data.1 cap7,.slice ao8 (x k).delta.1 cap8] 85 j) (by have:=zg3 (fun i=>zaM kd sq (x i)) k;omega) (by simp;omega);clear hpk hnext hcat
     go_wp2_with (at_builtin;refine zcm rfl (.tmp 32) (.tmp 37) rfl ?_ ?_ hrun ?_;(simp [Act.eval]);(simp [Act.eval]))
     go_roundw
     case rel=>exact ⟨k+1,ao',c',by omega,by go_num,by rw [HNX.out],by rw [HCT.out,HNX.out];exact r4,bB.trans b4⟩
     case measure=>simp [intOf];omega
   ·have te1:((x k).kind != kd)=true:=by simpa using hkd
    have HK:=hid hkd;have HS:Hid True:=trivial;clear hkd
    skip
    have hpk:(fun i=>zaM kd sq (x i)) k=true:=by show zaM kd sq (x k)=true;unfold zaM;simp only [Bool.not_eq_true',Bool.and_eq_false_iff];first | exact .inl (by simpa using HK.out) | exact .inr (by simpa using HS.out)
    have hnext:(zai (fun i=>zaM kd sq (x i)) (k+1)).length=(zai (fun i=>zaM kd sq (x i)) k).length+1:=by rw [zbm,if_pos hpk];simp
    have hcat:catN (zai (fun i=>zaM kd sq (x i)) (k+1)).length (fun i=>ce (selF (fun i=>zaM kd sq (x i)) (k+1) i))=catN (zai (fun i=>zaM kd sq (x i)) k).length (fun i=>ce (selF (fun i=>zaM kd sq (x i)) k i))++ce k:=zlF hpk;have HNX:=hid hnext;have HCT:=hid hcat;have bB:Below w.heap.size w (wx.alloc (.cells #[.int .i64 (x k).kind,.int .i64 (x k).seq,.string (x k).name,.int .i64 (x k).length,.int .i64 (x k).group,.int .i64 (x k).row,.slice ao6 (x k).rows.1 cap6,.slice ao7 (x k).data.1 cap7,.slice ao8 (x k).delta.1 cap8] 85)):=HBL.out.alloc zx _;obtain ⟨ao',c',w4,hrun,r4,b4⟩:=zeo zcO 78 (HRW.out.alloc (.cells #[.int .i64 (x k).kind,.int .i64 (x k).seq,.string (x k).name,.int .i64 (x k).length,.int .i64 (x k).group,.int .i64 (x k).row,.slice ao6 (x k).rows.1 cap6,.slice ao7 (x k).data.1 cap7,.slice ao8 (x k).delta.1 cap8] 85)) (cs:=ce k) (by rw [HCE.out];rfl) (fun u hu=>zab.own_one (h.out.each k hlt) u hu) wx.heap.size 1 (fun j hj=>by rw [HCE.out];exact zcN wx [.int .i64 (x k).kind,.int .i64 (x k).seq,.string (x k).name,.int .i64 (x k).length,.int .i64 (x k).group,.int .i64 (x k).row,.slice ao6 (x k).rows.1 cap6,.slice ao7 (x k).data.1 cap7,.slice ao8 (x k).delta.1 cap8] 85 j) (by have:=zg3 (fun i=>zaM kd sq (x i)) k;omega) (by simp;omega);clear hpk hnext hcat
    go_wp2_with (at_builtin;refine zcm rfl (.tmp 32) (.tmp 37) rfl ?_ ?_ hrun ?_;(simp [Act.eval]);(simp [Act.eval]))
    go_roundw
    case rel=>exact ⟨k+1,ao',c',by omega,by go_num,by rw [HNX.out],by rw [HCT.out,HNX.out];exact r4,bB.trans b4⟩
    case measure=>simp [intOf];omega
  ·obtain rfl:k=n:=by omega
   clear hrw hbl;go_wp2;go_ret;exact ⟨ao,c,rfl,HRW.out,HBL.out⟩
set_option maxRecDepth 20000 in
theorem zgr (a0 a1:Nat) (kd sq:Int) (r0 r1:Int) (r2:ByteArray) (r3 r4 r5:Int) (r6:Option Addr) (r7 r8:Nat) (r9:Option Addr) (r10 r11:Nat) (r12:Option Addr) (r13 r14:Nat) (w:World) (h0:w.cell? ⟨a0,0,none⟩=some (.int .i64 kd)) (h1:w.cell? ⟨a1,0,none⟩=some (.int .i64 sq)) (hl0:a0<w.heap.size) (hl1:a1<w.heap.size) :
 Calls Tryz.prog 142 #[.agg #[.int .i64 r0,.int .i64 r1,.string r2,.int .i64 r3,.int .i64 r4,.int .i64 r5,.slice r6 r7 r8,.slice r9 r10 r11,.slice r12 r13 r14],.pointer (some ⟨a0,0,none⟩),.pointer (some ⟨a1,0,none⟩)] w fun e w'=>e=.returned (.bool (r0==kd&&r1==sq))∧Below w.heap.size w w':=by
 have B:=zaK w #[.int .i64 r0,.int .i64 r1,.string r2,.int .i64 r3,.int .i64 r4,.int .i64 r5,.slice r6 r7 r8,.slice r9 r10 r11,.slice r12 r13 r14] 85;have x0:(w.alloc (.cells #[.int .i64 r0,.int .i64 r1,.string r2,.int .i64 r3,.int .i64 r4,.int .i64 r5,.slice r6 r7 r8,.slice r9 r10 r11,.slice r12 r13 r14] 85)).cell? ⟨w.heap.size,0,none⟩=some (.int .i64 r0):=B.b1.cell 0;have x1:(w.alloc (.cells #[.int .i64 r0,.int .i64 r1,.string r2,.int .i64 r3,.int .i64 r4,.int .i64 r5,.slice r6 r7 r8,.slice r9 r10 r11,.slice r12 r13 r14] 85)).cell? ⟨w.heap.size,1,none⟩=some (.int .i64 r1):=B.b1.cell 1;have c0:(w.alloc (.cells #[.int .i64 r0,.int .i64 r1,.string r2,.int .i64 r3,.int .i64 r4,.int .i64 r5,.slice r6 r7 r8,.slice r9 r10 r11,.slice r12 r13 r14] 85)).cell? ⟨a0,0,none⟩=some (.int .i64 kd):=(B.bel.cell (p:=⟨a0,0,none⟩) hl0).trans h0;have c1:(w.alloc (.cells #[.int .i64 r0,.int .i64 r1,.string r2,.int .i64 r3,.int .i64 r4,.int .i64 r5,.slice r6 r7 r8,.slice r9 r10 r11,.slice r12 r13 r14] 85)).cell? ⟨a1,0,none⟩=some (.int .i64 sq):=(B.bel.cell (p:=⟨a1,0,none⟩) hl1).trans h1;have HB:=hid B.bel;clear h0 h1 B
 by_cases hk:r0=kd
 ·subst hk
  by_cases hs:r1=sq
  ·subst hs
   have e1:(r0==r0)=true:=by simp
   have e2:(r1==r1)=true:=by simp
   go_enter Tryz.func142,Tryz.ntmps142
   go_wp2;go_ret;exact ⟨by simp,HB.out⟩
  ·have e1:(r0==r0)=true:=by simp
   have e2:(r1==sq)=false:=by simpa using hs
   clear hs
   go_enter Tryz.func142,Tryz.ntmps142
   go_wp2;go_ret;exact ⟨by simp [e2],HB.out⟩
 ·have e1:(r0==kd)=false:=by simpa using hk
  clear hk
  go_enter Tryz.func142,Tryz.ntmps142
  go_wp2;go_ret;exact ⟨by simp [e1],HB.out⟩
theorem zjZ {w w':World} {B a:Nat} {v:Value} (h:Below B w w') (ha:a<B) (hc:w.cell? ⟨a,0,none⟩=some v):w'.cell? ⟨a,0,none⟩=some v:=(h.cell (p:=⟨a,0,none⟩) ha).trans hc
set_option maxRecDepth 20000 in
theorem zjk (g cap n:Nat) (x:Nat→RecD) (ce:Nat→List Value) (Ls:Nat→List Nat) (a0 a1:Nat) (kd sq:Int) (w:World) (hO:SlO zab 85 w g cap n x ce Ls) (h0:w.cell? ⟨a0,0,none⟩=some (.int .i64 kd)) (h1:w.cell? ⟨a1,0,none⟩=some (.int .i64 sq)) (hl0:a0<w.heap.size) (hl1:a1<w.heap.size) (hn:n≤1048576) :
 Calls Tryz.prog 139 #[.slice (some ⟨g,0,none⟩) n cap,.func (.func 142) #[] #[.pointer (some ⟨a0,0,none⟩),.pointer (some ⟨a1,0,none⟩)]] w fun e w'=>((e=.returned (.int .i64 (-1))∧∀ i,i<n→(fun i=>zaM kd sq (x i)) i=true)∨∃ i:Nat,i<n∧e=.returned (.int .i64 (i:Int))∧(fun i=>zaM kd sq (x i)) i=false∧∀ t,t<i→(fun i=>zaM kd sq (x i)) t=true)∧Below w.heap.size w w':=by
 have h:=hid hO;have H0:=hid h0;have H1:=hid h1;clear hO h0 h1
 go_enter Tryz.func139,Tryz.ntmps139
 go_wp2
 go_loopw [8] (fun z wr=>∃ k:Nat,k≤n∧z=.int .i64 k∧(∀ t,t<k→(fun i=>zaM kd sq (x i)) t=true)∧Below w.heap.size w wr) (fun z _=>n-(intOf z).toNat)
 case atStart=>exact ⟨0,Nat.zero_le _,rfl,fun t ht=>by omega,Below.refl _ _⟩
 case round=>
  obtain ⟨k,hk,rfl,hall,hbl⟩:=hrel;obtain ⟨wx,rfl⟩:∃ y,y=wr:=⟨_,rfl⟩;have HALL:=hid hall;have HBL:=hid hbl;have zx:=hbl.size;clear hall
  by_cases hlt:k<n
  ·obtain ⟨ao6,cap6,ao7,cap7,ao8,cap8,K6,K7,K8,eR,-⟩:=zfj (h.out.each k hlt)
   have S5:=h.out.kept (w':=wx) (fun b hb=>hbl.block b (h.out.mem_lt b hb));have s_0:wx.cell? ⟨g,k*9,none⟩=some (.int .i64 (x k).kind):=(S5.cell hlt (j:=0) (by decide)).trans (by rw [eR];rfl);have s_1:wx.cell? ⟨g,k*9+1,none⟩=some (.int .i64 (x k).seq):=(S5.cell hlt (j:=1) (by decide)).trans (by rw [eR];rfl);have s_2:wx.cell? ⟨g,k*9+2,none⟩=some (.string (x k).name):=(S5.cell hlt (j:=2) (by decide)).trans (by rw [eR];rfl);have s_3:wx.cell? ⟨g,k*9+3,none⟩=some (.int .i64 (x k).length):=(S5.cell hlt (j:=3) (by decide)).trans (by rw [eR];rfl);have s_4:wx.cell? ⟨g,k*9+4,none⟩=some (.int .i64 (x k).group):=(S5.cell hlt (j:=4) (by decide)).trans (by rw [eR];rfl);have s_5:wx.cell? ⟨g,k*9+5,none⟩=some (.int .i64 (x k).row):=(S5.cell hlt (j:=5) (by decide)).trans (by rw [eR];rfl);have s_6:wx.cell? ⟨g,k*9+6,none⟩=some (.slice ao6 (x k).rows.1 cap6):=(S5.cell hlt (j:=6) (by decide)).trans (by rw [eR];rfl);have s_7:wx.cell? ⟨g,k*9+7,none⟩=some (.slice ao7 (x k).data.1 cap7):=(S5.cell hlt (j:=7) (by decide)).trans (by rw [eR];rfl);have s_8:wx.cell? ⟨g,k*9+8,none⟩=some (.slice ao8 (x k).delta.1 cap8):=(S5.cell hlt (j:=8) (by decide)).trans (by rw [eR];rfl)
   have i1:(0:Int)≤(k:Int):=by omega
   have i2:(k:Int)<(n:Int):=by omega
   have CS:=zgr a0 a1 kd sq (x k).kind (x k).seq (x k).name (x k).length (x k).group (x k).row ao6 (x k).rows.1 cap6 ao7 (x k).data.1 cap7 ao8 (x k).delta.1 cap8 wx (zjZ hbl hl0 H0.out) (zjZ hbl hl1 H1.out) (by omega) (by omega);obtain ⟨t,ht⟩:∃ t,t=((x k).kind==kd&&(x k).seq==sq):=⟨_,rfl⟩;rw [← ht] at CS
   have HT:Hid ((fun i=>zaM kd sq (x i)) k=!t):=by rw [ht];rfl
   clear hbl S5 eR ht
   go_wp2_with fail
   refine CS.mono ?_;rintro e w5 ⟨rfl,b5⟩;have B5:=hid (HBL.out.trans (b5.mono zx));clear b5 CS
   cases t with
   | true=>
    go_wp2;go_ret;exact ⟨.inr ⟨k,hlt,rfl,HT.out,HALL.out⟩,B5.out⟩
   | false=>
    go_wp2
    go_roundw
    case rel=>exact ⟨k+1,by omega,by go_num,fun t ht=>by
     by_cases c:t=k
     ·rw [c];exact HT.out
     ·exact HALL.out t (by omega),B5.out⟩
    case measure=>simp [intOf];omega
  ·obtain rfl:k=n:=by omega
   clear hbl;go_wp2;go_ret;exact ⟨.inl ⟨rfl,HALL.out⟩,HBL.out⟩
def mixF {β:Type} (p:Nat→Bool) (j:Nat) (f:Nat→β):Nat→β:=fun m=>if m<(zai p j).length then f (selF p j m) else f m
theorem zfz {β:Type} {p:Nat→Bool} {j m:Nat} (f:Nat→β) (h:(zai p j).length≤m):mixF p j f m=f m:=by unfold mixF;rw [if_neg (by omega)]
theorem zct {β:Type} {p:Nat→Bool} {j:Nat} (f:Nat→β) (h:p j=false) (m:Nat):mixF p (j+1) f m=mixF p j f m:=by
 unfold mixF;rw [zbM h]
 by_cases c:m<(zai p j).length
 ·rw [if_pos c,if_pos c,zcZ c]
 ·rw [if_neg c,if_neg c]
theorem zep {β:Type} {p:Nat→Bool} {j:Nat} (f:Nat→β) (h:p j=true) (m:Nat):upd (mixF p j f) (zai p j).length (f j) m=mixF p (j+1) f m:=by
 have e:(zai p (j+1)).length=(zai p j).length+1:=by rw [zbm,if_pos h];simp
 unfold mixF
 by_cases c:m=(zai p j).length
 ·subst c
  rw [zaZ,if_pos (by omega),zfv h]
 ·rw [za5 _ _ c]
  by_cases c2:m<(zai p j).length
  ·rw [if_pos c2,if_pos (by omega),zcZ c2]
  ·rw [if_neg c2,if_neg (by omega)]
theorem zcE {p:Nat→Bool} {n:Nat} (h:∀ i,i<n→p i=true):zai p n=List.range n:=by
 unfold zai;exact List.filter_eq_self.2 (fun i hi=>h i (List.mem_range.1 hi))
theorem zd5 {p:Nat→Bool} {n m:Nat} (h:∀ i,i<n→p i=true) (hm:m<n):selF p n m=m:=by
 unfold selF;rw [zcE h,List.getD_eq_getElem?_getD,List.getElem?_range hm];rfl
theorem zfA {β:Type} {p:Nat→Bool} {j:Nat} (f:Nat→β) (h:∀ i,i<j→p i=true) (m:Nat):mixF p j f m=f m:=by
 unfold mixF
 by_cases c:m<(zai p j).length
 ·rw [if_pos c,zd5 h (by rw [zcE h] at c;simpa using c)]
 ·rw [if_neg c]
theorem zfB {p:Nat→Bool} {n i:Nat} (hi:i<n) (h:p i=false):(zai p n).length<n:=by
 induction n with
 | zero=>omega
 | succ n ih=>
  by_cases c:i=n
  ·subst c
   rw [zbM h];have:=zg3 p i;omega
  ·have:=ih (by omega)
   have h2:(zai p (n+1)).length≤(zai p n).length+1:=by rw [zbm];split<;>simp
   omega
theorem zlG {w wr:World} {g cap n:Nat} {x:Nat→RecD} {ce:Nat→List Value} {Ls:Nat→List Nat} (h:SlO zab 85 w g cap n x ce Ls) (nd:(g::catN n Ls).Nodup) (p:Nat→Bool) (j:Nat) (hj:j≤n) (hc:ChgL [g] w wr) (hr:wr.ownsRow 0 85 zab.sz (.slice (some ⟨g,0,none⟩) n cap) n (catN n (mixF p j ce))):SlO zab 85 wr g cap n (mixF p j x) (mixF p j ce) (mixF p j Ls):=by
 refine ⟨hr,fun m hm=>?_⟩
 have key:∀ i,i<n→zab.own wr (x i) (ce i) (Ls i):=fun i hi=>Lay.own_chgL _ (h.each i hi) hc (fun b hb hbg=>by
  simp only [List.mem_singleton] at hbg
  subst hbg
  exact (List.nodup_cons.1 nd).1 (zaJ.2 ⟨i,hi,hb⟩))
 unfold mixF
 by_cases c:m<(zai p j).length
 ·rw [if_pos c,if_pos c,if_pos c]
  exact key _ (by have:=zd4 c;omega)
 ·rw [if_neg c,if_neg c,if_neg c]
  exact key m hm
theorem zmK (w:World):(zeroValue 85).run Tryz.prog w=.ok (.agg #[.int .i64 0,.int .i64 0,.string ByteArray.empty,.int .i64 0,.int .i64 0,.int .i64 0,.slice none 0 0,.slice none 0 0,.slice none 0 0]) w:=by kernel_rfl
theorem zlH (n:Nat):∀ v,v∈(Builtin.zeroCells #[.int .i64 0,.int .i64 0,.string ByteArray.empty,.int .i64 0,.int .i64 0,.int .i64 0,.slice none 0 0,.slice none 0 0,.slice none 0 0] n).toList→v.oneCell'=true:=fun v hv=>by
 simp only [Builtin.zeroCells,Array.toList_map,List.mem_map] at hv
 obtain ⟨i,_,rfl⟩:=hv;have hi:i%9<9:=Nat.mod_lt _ (by decide)
 show (#[.int .i64 0,.int .i64 0,.string ByteArray.empty,.int .i64 0,.int .i64 0,.int .i64 0,.slice none 0 0,.slice none 0 0,.slice none 0 0]:Array Value)[i%9]!.oneCell'=true
 generalize i%9=j at hi
 match j,hi with
 | 0,_=>rfl
 | 1,_=>rfl
 | 2,_=>rfl
 | 3,_=>rfl
 | 4,_=>rfl
 | 5,_=>rfl
 | 6,_=>rfl
 | 7,_=>rfl
 | 8,_=>rfl
theorem zkD (z:Value) (zs:Array Value) (hv:∀ w,(zeroValue 85).run Tryz.prog w=.ok z w) (hz:z.cells=zs) (h9:zs.size=9) (hone:∀ n v,v∈(Builtin.zeroCells zs n).toList→v.oneCell'=true) (w:World) (ty g o n c:Nat) (cur:Array Value) (hg:w.heap[g]?=some (.cells cur 85 (0,0))) (hn:0<n) (hl:o+n*9≤cur.size):∃ row:Array Value,(Builtin.clear_ #[78] ty #[.slice (some ⟨g,o,none⟩) n c]).run Tryz.prog w=.ok (.tuple #[]) (w.setRow g row)∧row.size=cur.size∧row.toList.take o=cur.toList.take o:=by
 obtain ⟨Z,hZ⟩:∃ Z,Z=(Builtin.zeroCells zs n).toList:=⟨_,rfl⟩
 have hlen:Z.length=n*9:=by rw [hZ];simp [Builtin.zeroCells,h9]
 have hst:=run_storeCells_at (P:=Tryz.prog) g o 85 Z 0 cur w hg (by rw [hlen];omega) (by rw [hZ];exact hone n)
 simp only [Nat.add_zero] at hst
 refine ⟨(cur.toList.take o++Z++cur.toList.drop (o+Z.length)).toArray,?_,?_,?_⟩
 ·obtain ⟨m,rfl⟩:∃ m,n=m+1:=⟨n-1,by omega⟩
  simp [Builtin.clear_,run_underlying Tryz.underlying78,hv,hz,← hZ,hst]
 ·simp only [List.size_toArray,List.length_append,List.length_take,List.length_drop,hlen,Array.length_toList]
  omega
 ·simp only [List.toList_toArray]
  rw [List.append_assoc,List.take_append_of_le_length (by simp;omega),List.take_take,Nat.min_self]
theorem zeI (w:World) (ty g o n c:Nat) (cur:Array Value) (hg:w.heap[g]?=some (.cells cur 85 (0,0))) (hn:0<n) (hl:o+n*9≤cur.size):∃ row:Array Value,(Builtin.clear_ #[78] ty #[.slice (some ⟨g,o,none⟩) n c]).run Tryz.prog w=.ok (.tuple #[]) (w.setRow g row)∧row.size=cur.size∧row.toList.take o=cur.toList.take o:=
 zkD (.agg #[.int .i64 0,.int .i64 0,.string ByteArray.empty,.int .i64 0,.int .i64 0,.int .i64 0,.slice none 0 0,.slice none 0 0,.slice none 0 0]) #[.int .i64 0,.int .i64 0,.string ByteArray.empty,.int .i64 0,.int .i64 0,.int .i64 0,.slice none 0 0,.slice none 0 0,.slice none 0 0] zmK rfl rfl zlH w ty g o n c cur hg hn hl
theorem zdU (g n cap i:Nat) (hi:i<n) (hn:n≤cap) (w:World):(Instr.slice 78 (.slice (some ⟨g,0,none⟩) n cap) (some (.int .i64 (i:Int))) none none).run Tryz.prog w=.ok (.slice (some ⟨g,i*9,none⟩) (n-i) (cap-i)) w:=by
 have e1:(i:Int)≤(n:Int):=by omega
 have e6:i≤n:=by omega
 have e7:¬ cap=i:=by omega
 simp [Instr.slice,run_underlying Tryz.underlying78,Instr.sliceBounds,Instr.sliceBound,asIntOf,go_sem,e1,e6,e7]
theorem zg5 (g n cap i:Nat) (hi:i≤cap) (w:World):(Instr.slice 78 (.slice (some ⟨g,0,none⟩) n cap) none (some (.int .i64 (i:Int))) none).run Tryz.prog w=.ok (.slice (some ⟨g,0,none⟩) i cap) w:=by
 have e1:(i:Int)≤(cap:Int):=by omega
 simp [Instr.slice,run_underlying Tryz.underlying78,Instr.sliceBounds,Instr.sliceBound,asIntOf,go_sem,e1,hi]
theorem zlI {w:World} {g cap n m s:Nat} {t:TypeId} {xs ys:List Value} (h:w.ownsRow 0 t s (.slice (some ⟨g,0,none⟩) n cap) n xs) (hm:m≤n) (hy:xs.take (m*s)=ys):w.ownsRow 0 t s (.slice (some ⟨g,0,none⟩) m cap) m ys:=by
 have hl:=h.1;have hms:m*s≤n*s:=Nat.mul_le_mul_right s hm;refine ⟨by rw [← hy,List.length_take,hl];omega,?_⟩
 rcases h.2 with ⟨hn,_⟩ | ⟨g',cap',cur,he,hbg,hgg,hnc,hcm,hcs,htk⟩
 ·cases hn
 ·cases he
  refine .inr ⟨g,cap,cur,rfl,hbg,hgg,by omega,hcm,hcs,?_⟩;rw [← hy,← htk,List.take_take,Nat.min_eq_left hms]
theorem zfC {n m s:Nat} {ce:Nat→List Value} (h:∀ i,i<n→(ce i).length=s) (hm:m≤n):(catN n ce).take (m*s)=catN m ce:=by
 induction n with
 | zero=>
  obtain rfl:m=0:=by omega
  simp [catN]
 | succ n ih=>
  by_cases c:m=n+1
  ·subst c
   exact List.take_of_length_le (by rw [zbO h];exact Nat.le_refl _)
  ·have hl:(catN n ce).length=n*s:=zbO (fun i hi=>h i (by omega))
   have hms:m*s≤n*s:=Nat.mul_le_mul_right s (by omega);rw [zbe,List.take_append_of_le_length (by omega)];exact ih (fun i hi=>h i (by omega)) (by omega)
set_option maxRecDepth 20000 in
theorem zh6 (g cap n:Nat) (x:Nat→RecD) (ce:Nat→List Value) (Ls:Nat→List Nat) (a0 a1:Nat) (kd sq:Int) (w:World) (hO:SlO zab 85 w g cap n x ce Ls) (nd:(g::catN n Ls).Nodup) (h0:w.cell? ⟨a0,0,none⟩=some (.int .i64 kd)) (h1:w.cell? ⟨a1,0,none⟩=some (.int .i64 sq)) (hl0:a0<w.heap.size) (hl1:a1<w.heap.size) (hg0:a0≠g) (hg1:a1≠g) (hn:n≤1048576) :
 Calls Tryz.prog 93 #[.slice (some ⟨g,0,none⟩) n cap,.func (.func 142) #[] #[.pointer (some ⟨a0,0,none⟩),.pointer (some ⟨a1,0,none⟩)]] w fun e w'=>e=.returned (.slice (some ⟨g,0,none⟩) (zai (fun i=>zaM kd sq (x i)) n).length cap)∧w'.ownsRow 0 85 zab.sz (.slice (some ⟨g,0,none⟩) (zai (fun i=>zaM kd sq (x i)) n).length cap) (zai (fun i=>zaM kd sq (x i)) n).length (catN (zai (fun i=>zaM kd sq (x i)) n).length (fun i=>ce (selF (fun i=>zaM kd sq (x i)) n i)))∧ChgL [g] w w':=by
 have h:=hid hO;have HND:=hid nd;have H0:=hid h0;have H1:=hid h1
 have hnc:n≤cap:=by
  rcases hO.row.2 with ⟨hn,_⟩ | ⟨g',cap',cur,he,hbg,hgg,hnc,_⟩
  ·cases hn
  ·cases he;exact hnc
 have HNC:=hid hnc;have hgl:=hO.lt;have CI:=zjk g cap n x ce Ls a0 a1 kd sq w hO h0 h1 hl0 hl1 hn;clear hO nd h0 h1 hnc
 go_enter Tryz.func93,Tryz.ntmps93
 go_wp2_with fail
 refine CI.mono ?_;rintro e w1 ⟨hcase,b1⟩;have HB1:=hid b1;have z1:=b1.size;clear CI b1
 rcases hcase with ⟨rfl,hall⟩ | ⟨i0,hi0,rfl,hp0,hbef⟩
 ·have HALL:=hid hall
  clear hall
  have te:((-1:Int)==-1)=true:=by decide
  go_wp2;go_ret
  have em:(zai (fun i=>zaM kd sq (x i)) n).length=n:=by rw [zcE HALL.out];simp
  have er:catN n (fun i=>ce (selF (fun i=>zaM kd sq (x i)) n i))=catN n ce:=za7 (fun i hi=>by rw [zd5 HALL.out hi]);rw [em,er];exact ⟨rfl,(h.out.kept (w':=w1) (fun b hb=>HB1.out.block b (h.out.mem_lt b hb))).row,ChgL.of_below HB1.out⟩
 have HP0:=hid hp0;have HBEF:=hid hbef;clear hp0 hbef;have te:((i0:Int)==-1)=false:=beq_eq_false_iff_ne.2 (by omega)
 have zi:IntKind.i64.wrap ((i0:Int)+1)=(i0:Int)+1:=by rw [IntKind.wrap_i64];omega
 go_wp2
 go_loopw [5,6] (fun v z wr=>∃ j:Nat,j≤n∧i0<j∧z=.int .i64 j∧v=.int .i64 ((zai (fun i=>zaM kd sq (x i)) (j)).length:Nat)∧wr.ownsRow 0 85 zab.sz (.slice (some ⟨g,0,none⟩) n cap) n (catN n (mixF (fun i=>zaM kd sq (x i)) (j) ce))∧ChgL [g] w wr) (fun _ z _=>n-(intOf z).toNat)
 case atStart=>
  refine ⟨i0+1,by omega,by omega,by simp,?_,?_,ChgL.of_below HB1.out⟩
  ·rw [zbM HP0.out,zcE HBEF.out];simp
  ·rw [za7 (g:=ce) (fun m _=>by rw [zct ce HP0.out,zfA ce HBEF.out])]
   exact (h.out.kept (w':=w1) (fun b hb=>HB1.out.block b (h.out.mem_lt b hb))).row
 case round=>
  obtain ⟨j,hj,hij,rfl,rfl,hrow,hch⟩:=hrel;obtain ⟨wx,rfl⟩:∃ y,y=wr:=⟨_,rfl⟩;have HCH:=hid hch;have HRW:=hid hrow;have zx:=hch.size;have hless:(zai (fun i=>zaM kd sq (x i)) (j)).length<j:=zfB hij HP0.out;clear hrow hch
  by_cases hlt:j<n
  ·obtain ⟨ao6,cap6,ao7,cap7,ao8,cap8,K6,K7,K8,eR,-⟩:=zfj (h.out.each j hlt)
   have HCE:=hid eR;have S5:=zlG h.out HND.out (fun i=>zaM kd sq (x i)) j hj HCH.out HRW.out
   have em:(mixF (fun i=>zaM kd sq (x i)) (j) ce) j=[.int .i64 (x j).kind,.int .i64 (x j).seq,.string (x j).name,.int .i64 (x j).length,.int .i64 (x j).group,.int .i64 (x j).row,.slice ao6 (x j).rows.1 cap6,.slice ao7 (x j).data.1 cap7,.slice ao8 (x j).delta.1 cap8]:=by rw [zfz ce (Nat.le_of_lt hless)];exact eR
   have s_0:wx.cell? ⟨g,j*9,none⟩=some (.int .i64 (x j).kind):=(S5.cell hlt (j:=0) (by decide)).trans (by rw [em];rfl);have s_1:wx.cell? ⟨g,j*9+1,none⟩=some (.int .i64 (x j).seq):=(S5.cell hlt (j:=1) (by decide)).trans (by rw [em];rfl);have s_2:wx.cell? ⟨g,j*9+2,none⟩=some (.string (x j).name):=(S5.cell hlt (j:=2) (by decide)).trans (by rw [em];rfl);have s_3:wx.cell? ⟨g,j*9+3,none⟩=some (.int .i64 (x j).length):=(S5.cell hlt (j:=3) (by decide)).trans (by rw [em];rfl);have s_4:wx.cell? ⟨g,j*9+4,none⟩=some (.int .i64 (x j).group):=(S5.cell hlt (j:=4) (by decide)).trans (by rw [em];rfl);have s_5:wx.cell? ⟨g,j*9+5,none⟩=some (.int .i64 (x j).row):=(S5.cell hlt (j:=5) (by decide)).trans (by rw [em];rfl);have s_6:wx.cell? ⟨g,j*9+6,none⟩=some (.slice ao6 (x j).rows.1 cap6):=(S5.cell hlt (j:=6) (by decide)).trans (by rw [em];rfl);have s_7:wx.cell? ⟨g,j*9+7,none⟩=some (.slice ao7 (x j).data.1 cap7):=(S5.cell hlt (j:=7) (by decide)).trans (by rw [em];rfl);have s_8:wx.cell? ⟨g,j*9+8,none⟩=some (.slice ao8 (x j).delta.1 cap8):=(S5.cell hlt (j:=8) (by decide)).trans (by rw [em];rfl)
   have i1:(0:Int)≤(j:Int):=by omega
   have i2:(j:Int)<(n:Int):=by omega
   have bV:=bAl wx (.cells #[.int .i64 (x j).kind,.int .i64 (x j).seq,.string (x j).name,.int .i64 (x j).length,.int .i64 (x j).group,.int .i64 (x j).row,.slice ao6 (x j).rows.1 cap6,.slice ao7 (x j).data.1 cap7,.slice ao8 (x j).delta.1 cap8] 85);have V1:=zaq wx #[.int .i64 (x j).kind,.int .i64 (x j).seq,.string (x j).name,.int .i64 (x j).length,.int .i64 (x j).group,.int .i64 (x j).row,.slice ao6 (x j).rows.1 cap6,.slice ao7 (x j).data.1 cap7,.slice ao8 (x j).delta.1 cap8] 85;have HS5:=hid S5;clear S5 em eR
   go_upto_region 8 with fail
   obtain ⟨W5,hW5⟩:∃ y,y=wx.alloc (.cells #[.int .i64 (x j).kind,.int .i64 (x j).seq,.string (x j).name,.int .i64 (x j).length,.int .i64 (x j).group,.int .i64 (x j).row,.slice ao6 (x j).rows.1 cap6,.slice ao7 (x j).data.1 cap7,.slice ao8 (x j).delta.1 cap8] 85):=⟨_,rfl⟩;rw [← hW5] at bV V1 ⊢;clear hW5 s_0 s_1 s_2 s_3 s_4 s_5 s_6 s_7 s_8;have z5:=bV.size;have C5:ChgL [g] w W5:=HCH.out.trans (ChgL.of_below bV);have CS:=zgr a0 a1 kd sq (x j).kind (x j).seq (x j).name (x j).length (x j).group (x j).row ao6 (x j).rows.1 cap6 ao7 (x j).data.1 cap7 ao8 (x j).delta.1 cap8 W5 ((World.cell?_of_block (C5.block a0 hl0 (by simpa using hg0))).trans H0.out) ((World.cell?_of_block (C5.block a1 hl1 (by simpa using hg1))).trans H1.out) (by omega) (by omega);obtain ⟨t,ht⟩:∃ t,t=((x j).kind==kd&&(x j).seq==sq):=⟨_,rfl⟩;rw [← ht] at CS
   have HT:Hid ((fun i=>zaM kd sq (x i)) j=!t):=by rw [ht];rfl
   have HC5:=hid C5;have v_0:W5.cell? ⟨wx.heap.size,0,none⟩=some (.int .i64 (x j).kind):=V1.cell 0;have v_1:W5.cell? ⟨wx.heap.size,1,none⟩=some (.int .i64 (x j).seq):=V1.cell 1;have v_2:W5.cell? ⟨wx.heap.size,2,none⟩=some (.string (x j).name):=V1.cell 2;have v_3:W5.cell? ⟨wx.heap.size,3,none⟩=some (.int .i64 (x j).length):=V1.cell 3;have v_4:W5.cell? ⟨wx.heap.size,4,none⟩=some (.int .i64 (x j).group):=V1.cell 4;have v_5:W5.cell? ⟨wx.heap.size,5,none⟩=some (.int .i64 (x j).row):=V1.cell 5;have v_6:W5.cell? ⟨wx.heap.size,6,none⟩=some (.slice ao6 (x j).rows.1 cap6):=V1.cell 6;have v_7:W5.cell? ⟨wx.heap.size,7,none⟩=some (.slice ao7 (x j).data.1 cap7):=V1.cell 7;have v_8:W5.cell? ⟨wx.heap.size,8,none⟩=some (.slice ao8 (x j).delta.1 cap8):=V1.cell 8;clear ht C5
   go_wp2_with fail
   refine CS.mono ?_;rintro e w6 ⟨rfl,b6⟩;have z6:=b6.size;have V6:=V1.call b6;have C6:=hid (HC5.out.trans (ChgL.of_below b6));have S6:=(HS5.out.kept (w':=w6) (fun b hb=>(b6.block b (by have:=HS5.out.mem_lt b hb;omega)).trans (bV.block b (HS5.out.mem_lt b hb))));have HS6:=hid S6;clear b6 CS bV V1 v_0 v_1 v_2 v_3 v_4 v_5 v_6 v_7 v_8
   cases t with
   | true=>
    have HR6:=hid S6.row;clear S6 V6;go_wp2
    go_roundw
    case rel=>
     refine ⟨j+1,by omega,by omega,by go_num,by rw [zbM HT.out],?_,C6.out⟩;rw [za7 (g:=(mixF (fun i=>zaM kd sq (x i)) (j) ce)) (fun m _=>zct ce HT.out m)];exact HR6.out
    case measure=>simp [intOf];omega
   | false=>
    obtain ⟨q,hq⟩:∃ q,q=(zai (fun i=>zaM kd sq (x i)) (j)).length:=⟨_,rfl⟩;have HQ:=hid hq
    have hqn:q<n:=by omega
    rw [← hq]
    have k1:(0:Int)≤(q:Int):=by omega
    have k2:(q:Int)<(n:Int):=by omega
    have hqc:=S6.lens q hqn
    have hso:∀ t,t<9→∃ u,w6.cell? ⟨g,q*9+t,none⟩=some u:=fun t ht=>by
     refine ⟨((mixF (fun i=>zaM kd sq (x i)) (j) ce) q)[t]'(by rw [hqc];exact ht),?_⟩;rw [← List.getElem?_eq_getElem];exact S6.cell hqn ht
    obtain ⟨u_0,t_0⟩:=hso 0 (by decide);obtain ⟨u_1,t_1⟩:=hso 1 (by decide);obtain ⟨u_2,t_2⟩:=hso 2 (by decide);obtain ⟨u_3,t_3⟩:=hso 3 (by decide);obtain ⟨u_4,t_4⟩:=hso 4 (by decide);obtain ⟨u_5,t_5⟩:=hso 5 (by decide);obtain ⟨u_6,t_6⟩:=hso 6 (by decide);obtain ⟨u_7,t_7⟩:=hso 7 (by decide);obtain ⟨u_8,t_8⟩:=hso 8 (by decide)
    simp only [Nat.add_zero] at t_0
    have tf_0:w6.frozen? ⟨g,q*9,none⟩=false:=S6.frozen _;have tf_1:w6.frozen? ⟨g,q*9+1,none⟩=false:=S6.frozen _;have tf_2:w6.frozen? ⟨g,q*9+2,none⟩=false:=S6.frozen _;have tf_3:w6.frozen? ⟨g,q*9+3,none⟩=false:=S6.frozen _;have tf_4:w6.frozen? ⟨g,q*9+4,none⟩=false:=S6.frozen _;have tf_5:w6.frozen? ⟨g,q*9+5,none⟩=false:=S6.frozen _;have tf_6:w6.frozen? ⟨g,q*9+6,none⟩=false:=S6.frozen _;have tf_7:w6.frozen? ⟨g,q*9+7,none⟩=false:=S6.frozen _;have tf_8:w6.frozen? ⟨g,q*9+8,none⟩=false:=S6.frozen _;have v_0:w6.cell? ⟨wx.heap.size,0,none⟩=some (.int .i64 (x j).kind):=V6.cell 0;have v_1:w6.cell? ⟨wx.heap.size,1,none⟩=some (.int .i64 (x j).seq):=V6.cell 1;have v_2:w6.cell? ⟨wx.heap.size,2,none⟩=some (.string (x j).name):=V6.cell 2;have v_3:w6.cell? ⟨wx.heap.size,3,none⟩=some (.int .i64 (x j).length):=V6.cell 3;have v_4:w6.cell? ⟨wx.heap.size,4,none⟩=some (.int .i64 (x j).group):=V6.cell 4;have v_5:w6.cell? ⟨wx.heap.size,5,none⟩=some (.int .i64 (x j).row):=V6.cell 5;have v_6:w6.cell? ⟨wx.heap.size,6,none⟩=some (.slice ao6 (x j).rows.1 cap6):=V6.cell 6;have v_7:w6.cell? ⟨wx.heap.size,7,none⟩=some (.slice ao7 (x j).data.1 cap7):=V6.cell 7;have v_8:w6.cell? ⟨wx.heap.size,8,none⟩=some (.slice ao8 (x j).delta.1 cap8):=V6.cell 8
    have hnx:(zai (fun i=>zaM kd sq (x i)) (j+1)).length=q+1:=by
     have hpk:(fun i=>zaM kd sq (x i)) j=true:=HT.out
     rw [hq,zbm,if_pos hpk];simp
    have HNX:=hid hnx
    have R7:(stN w6 g (q*zab.sz) [.int .i64 (x j).kind,.int .i64 (x j).seq,.string (x j).name,.int .i64 (x j).length,.int .i64 (x j).group,.int .i64 (x j).row,.slice ao6 (x j).rows.1 cap6,.slice ao7 (x j).data.1 cap7,.slice ao8 (x j).delta.1 cap8]).ownsRow 0 85 zab.sz (.slice (some ⟨g,0,none⟩) n cap) n (catN n (mixF (fun i=>zaM kd sq (x i)) (j+1) ce)):=by
     have hr:=ziH [.int .i64 (x j).kind,.int .i64 (x j).seq,.string (x j).name,.int .i64 (x j).length,.int .i64 (x j).group,.int .i64 (x j).row,.slice ao6 (x j).rows.1 cap6,.slice ao7 (x j).data.1 cap7,.slice ao8 (x j).delta.1 cap8] w6 (q*zab.sz) _ S6.row;rw [zht S6.lens hqn rfl] at hr
     rw [za7 (g:=(mixF (fun i=>zaM kd sq (x i)) (j+1) ce)) (fun m _=>by
      have hpk:(fun i=>zaM kd sq (x i)) j=true:=HT.out;have:=zep (p:=(fun i=>zaM kd sq (x i))) (j:=j) ce hpk m;rw [HCE.out,← hq] at this
      exact this)] at hr
     exact hr
    have HR7:=hid R7;have C7:Hid (ChgL [g] w (stN w6 g (q*zab.sz) [.int .i64 (x j).kind,.int .i64 (x j).seq,.string (x j).name,.int .i64 (x j).length,.int .i64 (x j).group,.int .i64 (x j).row,.slice ao6 (x j).rows.1 cap6,.slice ao7 (x j).data.1 cap7,.slice ao8 (x j).delta.1 cap8])):=C6.out.trans ⟨(zbs g _ w6 _).1,(zbs g _ w6 _).2.1,(zbs g _ w6 _).2.2,Nat.le_of_eq (zb8 g _ w6 _).symm,fun b _ hb=>zcp g b (fun hh=>hb (by simp [hh])) _ w6 _⟩
    have zq:IntKind.i64.wrap ((q:Int)+1)=(q:Int)+1:=by rw [IntKind.wrap_i64];omega
    clear S6 V6 hq hso hqc hnx R7;go_wp2
    go_roundw
    case rel=>
     refine ⟨j+1,by omega,by omega,by go_num,by rw [HNX.out];simp,HR7.out,C7.out⟩
    case measure=>simp [intOf];omega
  ·obtain rfl:j=n:=by omega
   obtain ⟨q,hq⟩:∃ q,q=(zai (fun i=>zaM kd sq (x i)) (j)).length:=⟨_,rfl⟩;have HQ:=hid hq;have S5:=zlG h.out HND.out (fun i=>zaM kd sq (x i)) j hj HCH.out HRW.out;have hlens:=S5.lens
   rcases S5.row.2 with ⟨hnn,_⟩ | ⟨g',cap',cur,he,hbg,hgg,hnc',hcm,hcs,htk⟩
   ·cases hnn
   cases he
   have hqn:q<j:=by omega
   obtain ⟨row,hcl,hrs,hrt⟩:=zeI wx 0 g (q*9) (j-q) (cap-q) cur hgg (by omega) (by
    have h9:cur.size=cap*9:=hcs
    have:q*9+(j-q)*9≤cap*9:=by rw [← Nat.add_mul];exact Nat.mul_le_mul_right 9 (by omega)
    omega)
   have hf:=zdU g j cap q hqn HNC.out;have ht:=fun w'=>zg5 g j cap q (by omega) w';obtain ⟨W7,hW7⟩:∃ y,y=wx.setRow g row:=⟨_,rfl⟩;rw [← hW7] at hcl
   have R7:Hid (W7.ownsRow 0 85 zab.sz (.slice (some ⟨g,0,none⟩) q cap) q (catN q (fun i=>ce (selF (fun i=>zaM kd sq (x i)) j i)))):=by
    have hrow0:=zlI S5.row (Nat.le_of_lt hqn) (zfC hlens (Nat.le_of_lt hqn))
    have e1:catN q (mixF (fun i=>zaM kd sq (x i)) (j) ce)=catN q (fun i=>ce (selF (fun i=>zaM kd sq (x i)) j i)):=za7 (fun i hi=>by
     show mixF _ j ce i=_
     unfold mixF
     rw [if_pos (by rw [← hq];exact hi)])
    rw [e1] at hrow0;refine ⟨hrow0.1,?_⟩
    rcases hrow0.2 with ⟨hnn,_⟩ | ⟨g2,cap2,cur2,he2,hb2,hg2,hn2,hm2,hs2,ht2⟩
    ·cases hnn
    cases he2
    rw [hgg] at hg2
    cases hg2
    refine .inr ⟨g,cap,row,rfl,hb2,by rw [hW7];exact setRow_heap wx g cur row 85 (0,0) hgg,hn2,hm2,by rw [hrs];exact hs2,?_⟩;rw [← ht2];exact hrt
   have C7:Hid (ChgL [g] w W7):=by
    rw [hW7];exact HCH.out.trans (zcl g row)
   clear S5 hlens hgg htk hcs hcm hnc' hbg hrs hrt hW7 hless;rw [← hq];clear hq
   go_wp2_with (simp only [hcl])
   go_ret;rw [← HQ.out];exact ⟨rfl,R7.out,C7.out⟩
end Go.Proofs.YthbpmbgfddpffaaGreat
namespace Go.Proofs.YthbpmbgfddpffaaGreat.Sym
def Re (a b:Nat) (p q:Nat→Nat):Prop:=∃ s t:Nat→Nat,(∀ i,q i=p (s i))∧(∀ i,t (s i)=i)∧(∀ i,s (t i)=i)∧∀ i,(i<a∨b≤i)→s i=i
theorem Re.refl (a b:Nat) (p:Nat→Nat):Re a b p p:=⟨id,id,fun _=>rfl,fun _=>rfl,fun _=>rfl,fun _ _=>rfl⟩
theorem Re.trans {a b:Nat} {p q r:Nat→Nat} (h:Re a b p q) (k:Re a b q r):Re a b p r:=by
 obtain ⟨s,t,h1,h2,h3,h4⟩:=h;obtain ⟨s',t',k1,k2,k3,k4⟩:=k;refine ⟨fun i=>s (s' i),fun i=>t' (t i),fun i=>by rw [k1,h1],fun i=>?_,fun i=>?_,fun i hi=>?_⟩
 ·show t' (t (s (s' i)))=i
  rw [h2,k2]
 ·show s (s' (t' (t i)))=i
  rw [k3,h3]
 ·show s (s' i)=i
  rw [k4 i hi,h4 i hi]
theorem Re.mono {a b a' b':Nat} {p q:Nat→Nat} (h:Re a b p q) (ha:a'≤a) (hb:b≤b'):Re a' b' p q:=by
 obtain ⟨s,t,h1,h2,h3,h4⟩:=h;exact ⟨s,t,h1,h2,h3,fun i hi=>h4 i (by omega)⟩
theorem Re.out {a b:Nat} {p q:Nat→Nat} (h:Re a b p q) {i:Nat} (hi:i<a∨b≤i):q i=p i:=by
 obtain ⟨s,t,h1,h2,h3,h4⟩:=h;rw [h1,h4 i hi]
theorem Re.from {a b:Nat} {p q:Nat→Nat} (h:Re a b p q) {i:Nat} (hi:a≤i∧i<b):∃ j,(a≤j∧j<b)∧q i=p j:=by
 obtain ⟨s,t,h1,h2,h3,h4⟩:=h;refine ⟨s i,?_,h1 i⟩
 by_cases c:a≤s i∧s i<b
 ·exact c
 ·have:=h4 (s i) (by omega)
  have e:s i=i:=by rw [← h2 (s i),this,h2]
  omega
def swp (i j:Nat):Nat→Nat:=fun k=>if k=i then j else if k=j then i else k
theorem zlJ (i j k:Nat):swp i j (swp i j k)=k:=by unfold swp;split<;>split<;>simp_all<;>split<;>simp_all
theorem Re.swaps {a b i j:Nat} (p:Nat→Nat) (hi:a≤i∧i<b) (hj:a≤j∧j<b):Re a b p (fun k=>p (swp i j k)):=
 ⟨swp i j,swp i j,fun _=>rfl,zlJ i j,zlJ i j,fun k hk=>by unfold swp;rw [if_neg (by omega),if_neg (by omega)]⟩
def swr (a b n:Nat):Nat→Nat:=fun k=>if a≤k∧k<a+n then b+(k-a) else if b≤k∧k<b+n then a+(k-b) else k
theorem swr_zero (a b k:Nat):swr a b 0 k=k:=by unfold swr;rw [if_neg (by omega),if_neg (by omega)]
theorem swr_succ {a b n:Nat} (h:a+(n+1)≤b) (k:Nat):swr a b n (swp (a+n) (b+n) k)=swr a b (n+1) k:=by
 unfold swr swp
 by_cases c1:k=a+n
 ·rw [if_pos c1,if_neg (by omega),if_neg (by omega),if_pos (by omega)];omega
 ·rw [if_neg c1]
  by_cases c2:k=b+n
  ·rw [if_pos c2,if_neg (by omega),if_neg (by omega),if_neg (by omega),if_pos (by omega)];omega
  ·rw [if_neg c2]
   by_cases c3:a≤k∧k<a+n
   ·rw [if_pos c3,if_pos (by omega)]
   ·rw [if_neg c3,if_neg (show ¬ (a≤k∧k<a+(n+1)) by omega)]
    by_cases c4:b≤k∧k<b+n
    ·rw [if_pos c4,if_pos (by omega)]
    ·rw [if_neg c4,if_neg (by omega)]
def rot (lo m hi:Nat):Nat→Nat:=fun k=>if k<lo∨hi≤k then k else if k<lo+(hi-m) then m+(k-lo) else k-(hi-m)
theorem rot_more {m i j:Nat} (hij:j<i) (him:i≤m) (k:Nat):swr (m-i) m j (rot (m-(i-j)) m (m+j) k)=rot (m-i) m (m+j) k:=by
 unfold rot
 by_cases c1:k<m-i∨m+j≤k
 ·rw [if_pos (show k<m-i∨m+j≤k from c1),if_pos (by omega)]
  unfold swr;rw [if_neg (by omega),if_neg (by omega)]
 ·rw [if_neg c1]
  by_cases c2:k<m-i+(m+j-m)
  ·rw [if_pos c2,if_pos (by omega)]
   unfold swr;rw [if_pos (by omega)]
  ·rw [if_neg c2,if_neg (by omega)]
   by_cases c3:k<m-(i-j)+(m+j-m)
   ·rw [if_pos c3]
    unfold swr;rw [if_neg (by omega),if_pos (by omega)];omega
   ·rw [if_neg c3]
    unfold swr;rw [if_neg (by omega),if_neg (by omega)]
theorem rot_less {m i j:Nat} (hij:i<j) (him:i≤m) (k:Nat):swr (m-i) (m+j-i) i (rot (m-i) m (m+(j-i)) k)=rot (m-i) m (m+j) k:=by
 unfold rot
 by_cases c1:k<m-i∨m+j≤k
 ·rw [if_pos (show k<m-i∨m+j≤k from c1),if_pos (by omega)]
  unfold swr;rw [if_neg (by omega),if_neg (by omega)]
 ·rw [if_neg c1]
  by_cases c4:m+(j-i)≤k
  ·rw [if_pos (by omega),if_neg (by omega)]
   unfold swr;rw [if_neg (by omega),if_pos (by omega)];omega
  ·rw [if_neg (by omega)]
   by_cases c2:k<m-i+(m+(j-i)-m)
   ·rw [if_pos c2,if_pos (by omega)]
    unfold swr;rw [if_neg (by omega),if_neg (by omega)]
   ·rw [if_neg c2,if_pos (by omega)]
    unfold swr;rw [if_pos (by omega)];omega
theorem rot_same {m i:Nat} (him:i≤m) (k:Nat):swr (m-i) m i k=rot (m-i) m (m+i) k:=by
 unfold rot swr
 by_cases c1:k<m-i∨m+i≤k
 ·rw [if_pos c1,if_neg (by omega),if_neg (by omega)]
 ·rw [if_neg c1]
  by_cases c2:k<m-i+(m+i-m)
  ·rw [if_pos c2,if_pos (by omega)]
  ·rw [if_neg c2,if_neg (by omega),if_pos (by omega)];omega
theorem zj0 {lo m hi:Nat} (h1:lo≤m) (h2:m≤hi) (k:Nat):rot lo (lo+(hi-m)) hi (rot lo m hi k)=k:=by
 unfold rot
 by_cases c1:k<lo∨hi≤k
 ·rw [if_pos c1,if_pos c1]
 ·rw [if_neg c1]
  by_cases c2:k<lo+(hi-m)
  ·rw [if_pos c2,if_neg (by omega),if_neg (by omega)];omega
  ·rw [if_neg c2,if_neg (by omega),if_pos (by omega)];omega
theorem Re.rots {lo m hi:Nat} (p:Nat→Nat) (h1:lo≤m) (h2:m≤hi):Re lo hi p (fun k=>p (rot lo m hi k)):=
 ⟨rot lo m hi,rot lo (lo+(hi-m)) hi,fun _=>rfl,zj0 h1 h2,fun k=>by
  have:=zj0 (lo:=lo) (m:=lo+(hi-m)) (hi:=hi) (by omega) (by omega) k
  rwa [show lo+(hi-(lo+(hi-m)))=m by omega] at this,fun k hk=>by unfold rot;rw [if_pos hk]⟩
structure Ord (lt:Nat→Nat→Prop):Prop where
 trans:∀ {i j k},lt i j→lt j k→lt i k
 irr:∀ i,¬ lt i i
def Srt (lt:Nat→Nat→Prop) (p:Nat→Nat) (a b:Nat):Prop:=∀ i j,a≤i→i<j→j<b→lt (p i) (p j)
theorem Srt.sub {lt:Nat→Nat→Prop} {p:Nat→Nat} {a b a' b':Nat} (h:Srt lt p a b) (h1:a≤a') (h2:b'≤b):Srt lt p a' b':=fun i j h3 h4 h5=>h i j (by omega) h4 (by omega)
theorem Srt.congr {lt:Nat→Nat→Prop} {p q:Nat→Nat} {a b:Nat} (h:Srt lt p a b) (e:∀ i,a≤i→i<b→q i=p i):Srt lt q a b:=fun i j h3 h4 h5=>by
 rw [e i h3 (by omega),e j (by omega) h5];exact h i j h3 h4 h5
theorem Srt.join {lt:Nat→Nat→Prop} {p:Nat→Nat} {a m b:Nat} (h1:Srt lt p a m) (h2:Srt lt p m b) (h:∀ i j,a≤i→i<m→m≤j→j<b→lt (p i) (p j)):Srt lt p a b:=fun i j h3 h4 h5=>by
 by_cases c1:j<m
 ·exact h1 i j h3 h4 c1
 ·by_cases c2:i<m
  ·exact h i j h3 c2 (by omega) h5
  ·exact h2 i j (by omega) h4 h5
theorem split {lt:Nat→Nat→Prop} (O:Ord lt) {p:Nat→Nat} {a m b s e mid:Nat} (h1:Srt lt p a m) (h2:Srt lt p m b) (hm:mid+m=s+e) (ha:a≤s) (sm:s≤m) (me:m≤e) (eb:e≤b)
 (q1:s≠a→e≠b→lt (p (s-1)) (p e)) (q2:s≠m→e≠m→lt (p (e-1)) (p s)) :
 Srt lt (fun k=>p (rot s m e k)) a s∧Srt lt (fun k=>p (rot s m e k)) s mid∧Srt lt (fun k=>p (rot s m e k)) mid e∧Srt lt (fun k=>p (rot s m e k)) e b∧
  ∀ i j,a≤i→i<mid→mid≤j→j<b→lt (p (rot s m e i)) (p (rot s m e j)):=by
 have r1:∀ i,i<s→rot s m e i=i:=fun i hi=>by unfold rot;rw [if_pos (by omega)]
 have r2:∀ i,s≤i→i<mid→rot s m e i=m+(i-s):=fun i h3 h4=>by unfold rot;rw [if_neg (by omega),if_pos (by omega)]
 have r3:∀ i,mid≤i→i<e→rot s m e i=s+(i-mid):=fun i h3 h4=>by unfold rot;rw [if_neg (by omega),if_neg (by omega)];omega
 have r4:∀ i,e≤i→rot s m e i=i:=fun i hi=>by unfold rot;rw [if_pos (by omega)]
 refine ⟨fun i j x y z=>?_,fun i j x y z=>?_,fun i j x y z=>?_,fun i j x y z=>?_,fun i j x y z u=>?_⟩
 ·show lt (p (rot s m e i)) (p (rot s m e j))
  rw [r1 i (by omega),r1 j z];exact h1 i j x y (by omega)
 ·show lt (p (rot s m e i)) (p (rot s m e j))
  rw [r2 i x (by omega),r2 j (by omega) z];exact h2 _ _ (by omega) (by omega) (by omega)
 ·show lt (p (rot s m e i)) (p (rot s m e j))
  rw [r3 i x (by omega),r3 j (by omega) z];exact h1 _ _ (by omega) (by omega) (by omega)
 ·show lt (p (rot s m e i)) (p (rot s m e j))
  rw [r4 i x,r4 j (by omega)];exact h2 _ _ (by omega) (by omega) (by omega)
 ·have le1:∀ {i j},a≤i→i≤j→j<m→p i=p j∨lt (p i) (p j):=fun {i j} x y z=>by
   by_cases c:i=j
   ·exact .inl (by rw [c])
   ·exact .inr (h1 i j x (by omega) z)
  have le2:∀ {i j},m≤i→i≤j→j<b→p i=p j∨lt (p i) (p j):=fun {i j} x y z=>by
   by_cases c:i=j
   ·exact .inl (by rw [c])
   ·exact .inr (h2 i j x (by omega) z)
  have tl:∀ {i j k},(i=j∨lt i j)→lt j k→lt i k:=fun {i j k} x y=>by
   rcases x with rfl | x
   ·exact y
   ·exact O.trans x y
  have tr:∀ {i j k},lt i j→(j=k∨lt j k)→lt i k:=fun {i j k} x y=>by
   rcases y with rfl | y
   ·exact x
   ·exact O.trans x y
  by_cases c1:i<s
  ·rw [r1 i c1]
   by_cases c2:j<e
   ·rw [r3 j z c2]
    exact h1 _ _ x (by omega) (by omega)
   ·rw [r4 j (by omega)]
    have q:=q1 (by omega) (by omega);exact tr (tl (le1 x (show i≤s-1 by omega) (by omega)) q) (le2 me (by omega) u)
  ·rw [r2 i (by omega) y]
   by_cases c2:j<e
   ·rw [r3 j z c2]
    have q:=q2 (by omega) (by omega);exact tr (tl (le2 (by omega) (show m+(i-s)≤e-1 by omega) (by omega)) q) (le1 ha (by omega) (by omega))
   ·rw [r4 j (by omega)]
    exact h2 _ _ (by omega) (by omega) u
theorem halves {lt:Nat→Nat→Prop} {p q r:Nat→Nat} {a mid b:Nat} (am:a≤mid) (mb:mid≤b) (h:∀ i j,a≤i→i<mid→mid≤j→j<b→lt (p i) (p j)) (k1:Re a mid p q) (k2:Re mid b q r) (s1:Srt lt q a mid) (s2:Srt lt r mid b):Srt lt r a b∧Re a b p r:=by
 refine ⟨Srt.join (m:=mid) (s1.congr fun i x y=>k2.out (.inl y)) s2 (fun i j x y z u=>?_),(k1.mono (Nat.le_refl _) mb).trans (k2.mono am (Nat.le_refl _))⟩
 obtain ⟨i',hi,e1⟩:=k1.from ⟨x,y⟩
 obtain ⟨j',hj,e2⟩:=k2.from ⟨z,u⟩
 rw [k2.out (.inl y),e1,e2,k1.out (.inr hj.1)];exact h i' j' hi.1 hi.2 hj.1 hj.2
end Go.Proofs.YthbpmbgfddpffaaGreat.Sym
namespace Go.Proofs.YthbpmbgfddpffaaGreat
open Go.RowKit F256
def zfD {α:Type} (E:Lay α):Prop:=∀ (w:World) (hi:Nat) (a:α) (cs:List Value),E.rd w hi a cs→∀ u,u∈cs→u.oneCell'=true
theorem zbW {α:Type} (enc:α→Value) (ok:α→Prop) (one:∀ a,(enc a).oneCell'=true):zfD (Lay.plain enc ok one):=fun w hi a cs h u hu=>by
 obtain ⟨rfl,_⟩:=h
 simp at hu
 subst hu;exact one a
theorem zcx {α β:Type} {A:Lay α} {B:Lay β} (ha:zfD A) (hb:zfD B):zfD (A.two B):=fun w hi p cs h u hu=>by
 obtain ⟨c,d,rfl,h1,h2⟩:=h
 rcases List.mem_append.1 hu with h | h
 ·exact ha _ _ _ _ h1 u h
 ·exact hb _ _ _ _ h2 u h
theorem zmL {α β:Type} {A:Lay α} (ha:zfD A) (f:β→α):zfD (A.as f):=fun w hi p cs h u hu=>ha w hi (f p) cs h u hu
theorem zfE:zfD zag:=fun w hi p cs h u hu=>by
 obtain ⟨v,rfl,⟨ao,cap,rfl,_⟩,_⟩:=h
 simp at hu
 subst hu;rfl
theorem zkE:zfD zao:=fun w hi p cs h u hu=>by
 obtain ⟨v,rfl,⟨⟨ao,cap,rfl,_⟩,_⟩,_⟩:=h
 simp at hu
 subst hu;rfl
theorem zaT:zfD zab:=zmL (zcx (zbW _ _ _) (zcx (zbW _ _ _) (zcx (zbW _ _ _) (zcx (zbW _ _ _) (zcx (zbW _ _ _) (zcx (zbW _ _ _) (zcx zkE (zcx zfE zfE)))))))) _
def cat2 {β:Type} (x:Nat→β) (n:Nat) (y:Nat→β):Nat→β:=fun i=>if i<n then x i else y (i-n)
theorem zbN {β:Type} (x:Nat→β) {n i:Nat} (y:Nat→β) (h:i<n):cat2 x n y i=x i:=if_pos h
theorem zbX {β:Type} (x:Nat→β) (n:Nat) (y:Nat→β) (i:Nat):cat2 x n y (n+i)=y i:=by
 unfold cat2;rw [if_neg (by omega)]
 congr 1
 omega
theorem zfF {β:Type} (x:Nat→List β) (n:Nat) (y:Nat→List β):∀ m,catN (n+m) (cat2 x n y)=catN n x++catN m y
 | 0=>by rw [zbp,List.append_nil];exact za7 (fun i hi=>zbN x y hi)
 | m+1=>by rw [← Nat.add_assoc,zbe,zfF x n y m,zbe,zbX,List.append_assoc]
structure View {α:Type} (E:Lay α) (t:TypeId) (w:World) (lo hi:Nat) (v:Value) (n:Nat) (x:Nat→α) (ce:Nat→List Value):Prop where
 row:w.ownsRow lo t E.sz v n (catN n ce)
 each:∀ i,i<n→E.rd w hi (x i) (ce i)
section
variable {α:Type} {E:Lay α} {t:TypeId} {w w':World} {lo hi n:Nat} {v:Value} {x:Nat→α} {ce:Nat→List Value}
theorem View.nil (x:Nat→α) (ce:Nat→List Value) (w:World) (lo hi:Nat):View E t w lo hi (.slice none 0 0) 0 x ce:=⟨World.ownsRow_nil w lo t E.sz,fun i hi=>by omega⟩
theorem View.lit0 (x:Nat→α) (ce:Nat→List Value) (w:World) (hi:Nat):View E t (w.alloc (.cells #[] t)) w.heap.size hi (.slice (some ⟨w.heap.size,0,none⟩) 0 0) 0 x ce:=by
 have h:=World.ownsRow_lit (base:=w.heap.size) (e:=t) (size:=E.sz) w #[] 0 (Nat.le_refl _) (Nat.zero_le _) (by simp);exact ⟨by simpa [zbp] using h,fun i hi=>by omega⟩
theorem View.form (h:View E t w lo hi v n x ce):∃ ao cap,v=.slice ao n cap:=by
 rcases h.row.2 with ⟨hv,hn⟩ | ⟨g,cap,cur,rfl,_⟩
 ·exact ⟨none,0,by rw [hv,hn]⟩
 ·exact ⟨_,_,rfl⟩
theorem View.form0 (h:View E t w lo hi v n x ce) (h0:n≠0):∃ g cap,v=.slice (some ⟨g,0,none⟩) n cap:=by
 rcases h.row.2 with ⟨hv,hn⟩ | ⟨g,cap,cur,rfl,_⟩
 ·exact absurd hn h0
 ·exact ⟨_,_,rfl⟩
theorem View.len (h:View E t w lo hi v n x ce):n≤maxLen:=by
 rcases h.row.2 with ⟨hv,hn⟩ | ⟨g,cap,cur,rfl,hbg,hgg,hnc,hcm,rest⟩
 ·omega
 ·omega
theorem View.kept (h:View E t w lo hi v n x ce) (hk:∀ b,v.ownBlock=some b→w'.heap[b]?=w.heap[b]?) (hb:Below hi w w'):View E t w' lo hi v n x ce:=by
 refine ⟨⟨h.row.1,?_⟩,fun i hi=>E.rd_below (h.each i hi) hb (Nat.le_refl _)⟩
 rcases h.row.2 with hn | ⟨g,cap,cur,rfl,hbg,hgg,rest⟩
 ·exact .inl hn
 ·exact .inr ⟨g,cap,cur,rfl,hbg,(hk g (by simp [Value.ownBlock])).trans hgg,rest⟩
theorem View.below (h:View E t w lo hi v n x ce) (hb:Below w.heap.size w w') (hh:hi≤w.heap.size):View E t w' lo hi v n x ce:=
 h.kept (fun b hv=>hb.block b (h.row.lt b hv).2) (hb.mono hh)
theorem View.congr {y:Nat→α} (h:View E t w lo hi v n x ce) (hy:∀ i,i<n→x i=y i):View E t w lo hi v n y ce:=⟨h.row,fun i hi=>by rw [← hy i hi];exact h.each i hi⟩
theorem View.lens (h:View E t w lo hi v n x ce):∀ i,i<n→(ce i).length=E.sz:=fun i hi=>E.rd_len (h.each i hi)
theorem View.cell {g cap:Nat} (h:View E t w lo hi (.slice (some ⟨g,0,none⟩) n cap) n x ce) {i j:Nat} (hi:i<n) (hj:j<E.sz):w.cell? ⟨g,i*E.sz+j,none⟩=(ce i)[j]?:=by
 rw [h.row.cellAt _ (zlf hi hj),zco h.lens hi hj]
theorem View.rd (h:View E t w lo hi v n x ce) (hh:hi≤w.heap.size):(E.slice t).rd w w.heap.size (n,x) [v]:=by
 have hlt:=fun b hb=>(h.row.lt b hb).2;obtain ⟨ao,cap,rfl⟩:=h.form;refine ⟨ao,cap,rfl,h.len,fun h0=>?_⟩;obtain ⟨g,cap',e⟩:=h.form0 h0
 cases e
 refine ⟨g,0,rfl,hlt g (by simp [Value.ownBlock]),fun i hi=>⟨ce i,E.rd_mono (h.each i hi) hh,fun j hj=>?_⟩⟩;rw [Nat.zero_add];exact h.cell hi hj
def Src (E:Lay α) (w:World) (hi:Nat) (ao:Option Addr) (m:Nat) (y:Nat→α) (cy:Nat→List Value):Prop:=
 (m≠0→∃ b off,ao=some ⟨b,off,none⟩∧∀ j,j<m→∀ k,k<E.sz→w.cell? ⟨b,off+(j*E.sz+k),none⟩=(cy j)[k]?)∧∀ j,j<m→E.rd w hi (y j) (cy j)
theorem zd6 {b:Nat} {y:α} {cs:List Value} (hc:∀ k,k<E.sz→w.cell? ⟨b,k,none⟩=cs[k]?) (hy:E.rd w hi y cs):Src E w hi (some ⟨b,0,none⟩) 1 (fun _=>y) (fun _=>cs):=
 ⟨fun _=>⟨b,0,rfl,fun j hj k hk=>by
  obtain rfl:j=0:=by omega
  rw [← hc k hk]
  congr 2
  omega⟩,fun _ _=>hy⟩
theorem zn4 (b o j:Nat):(⟨b,o,none⟩:Addr).add j=⟨b,o+j,none⟩:=by unfold Addr.add;split<;>simp_all
end
theorem zbn {α:Type} {E:Lay α} {T e:TypeId} {by_:Nat} {zs:List Value} (I:ElInfo E T e by_ zs) (R1:zfD E) (ty:TypeId) {W:World} {lo hi n:Nat} {v:Value} {x:Nat→α} {ce:Nat→List Value} (h:View E e W lo hi v n x ce)
 {ao:Option Addr} {m:Nat} (c:Nat) {y:Nat→α} {cy:Nat→List Value} (hs:Src E W hi ao m y cy) (hlo:lo≤W.heap.size) (hhi:hi≤lo) (hn:n+m≤10000000) (hc0:ao=none→c=0∨m=0) :
 ∃ v' w',(Builtin.append_ #[T,T] ty #[v,.slice ao m c]).run Tryz.prog W=.ok v' w'∧View E e w' lo hi v' (n+m) (cat2 x n y) (cat2 ce n cy)∧W.grownBy w' v.ownBlock∧Below lo W w':=by
 obtain ⟨hz,hzs,hu,hinf,few⟩:=I
 obtain ⟨i0,hi0⟩:∃ i0,Tryz.prog.info? e=some i0:=by
  cases h:Tryz.prog.info? e with
  | none=>rw [h] at hinf;cases hinf
  | some i0=>exact ⟨i0,rfl⟩
 rw [hi0] at hinf
 simp only [Option.map_some,Option.some.injEq,Prod.mk.injEq] at hinf
 obtain ⟨h1,h2,h3⟩:=hinf
 obtain ⟨z,hz0,hzc⟩:∃ z,i0.zero=some z∧z.cells=zs.toArray:=by
  cases h:i0.zero with
  | none=>rw [h] at h1;cases h1
  | some z=>rw [h] at h1;exact ⟨z,rfl,by simpa using h1⟩
 obtain ⟨hcell,hrd⟩:=hs;have hlen:(catN m cy).length=m*E.sz:=zbO (fun j hj=>E.rd_len (hrd j hj))
 have big:∀ ad,ao=some ad→(∀ j u,(catN m cy)[j]?=some u→W.cell? (ad.add j)=some u)→∃ v' w',(Builtin.append_ #[T,T] ty #[v,.slice ao m c]).run Tryz.prog W=.ok v' w'∧View E e w' lo hi v' (n+m) (cat2 x n y) (cat2 ce n cy)∧W.grownBy w' v.ownBlock∧Below lo W w':=fun ad ha hc=>by
  subst ha
  obtain ⟨v',w',hr,r1,r2,r3,r4⟩:=run_append_own_at (P:=Tryz.prog) W lo T ty e i0 z E.sz by_ hu hi0 hz0 h2 h3 (by rw [hzc];simpa using hzs) hz v n (catN n ce) h.row ad m c (catN m cy) hlen hc
   (fun u hu=>by
    obtain ⟨i,hi,hm⟩:=zaJ.1 hu
    exact R1 _ _ _ _ (hrd i hi) u hm) (by unfold maxLen;omega) (by
    have:(n+m)*by_≤10000000*1000:=Nat.mul_le_mul hn few
    omega) hlo
  have hb:Below lo W w':=(Below.refl _ _).grown r2 hlo (fun k hk=>(h.row.lt k hk).1);refine ⟨v',w',hr,⟨by rw [zfF];exact r1,fun i hi=>?_⟩,r2,hb⟩
  by_cases c1:i<n
  ·rw [zbN x y c1,zbN ce cy c1]
   exact E.rd_below (h.each i c1) hb hhi
  ·obtain ⟨k,rfl⟩:∃ k,i=n+k:=⟨i-n,by omega⟩
   rw [zbX,zbX];exact E.rd_below (hrd k (by omega)) hb hhi
 by_cases hm:m=0
 ·subst hm
  cases ao with
  | some ad=>exact big ad rfl (fun j u hj=>by rw [zbp] at hj;simp at hj)
  | none=>
   refine ⟨v,W,run_append_none' W lo T ty e i0 E.sz hu hi0 v n c _ h.row,⟨by rw [zfF,zbp,List.append_nil];exact h.row,fun i hi=>?_⟩,⟨rfl,rfl,rfl,Nat.le_refl _,fun _ _ _=>rfl⟩,Below.refl _ _⟩
   have hi':i<n:=by omega
   rw [zbN x y hi',zbN ce cy hi'];exact h.each i hi'
 ·obtain ⟨b,off,rfl,hcc⟩:=hcell hm
  refine big _ rfl (fun j u hj=>?_)
  have hj':j<m*E.sz:=by rw [← hlen];exact (List.getElem?_eq_some_iff.1 hj).1
  have e1:j/E.sz<m:=Nat.div_lt_of_lt_mul (by rw [Nat.mul_comm];exact hj');have e2:j%E.sz<E.sz:=Nat.mod_lt _ hz
  have e3:j/E.sz*E.sz+j%E.sz=j:=by rw [Nat.mul_comm];exact Nat.div_add_mod j E.sz
  rw [zn4,← e3,hcc _ e1 _ e2,← zco (fun j hj=>E.rd_len (hrd j hj)) e1 e2,e3];exact hj
def spl (xs:List Value):Nat→List Value→List Value
 | _,[]=>xs
 | o,v::r=>spl (xs.set o v) (o+1) r
theorem zny (cs:List Value):∀ (xs:List Value) (o j:Nat),o+cs.length≤xs.length→(spl xs o cs)[j]?=if o≤j∧j<o+cs.length then cs[j-o]? else xs[j]?:=by
 induction cs with
 | nil=>intro xs o j h;rw [if_neg (by simp)];rfl
 | cons v r ih=>
  intro xs o j h
  simp only [List.length_cons] at h
  show (spl (xs.set o v) (o+1) r)[j]?=_
  rw [ih (xs.set o v) (o+1) j (by rw [List.length_set];omega)]
  by_cases c1:o=j
  ·subst c1
   rw [if_neg (by omega),if_pos (by simp),List.getElem?_set]
   simp
   omega
  ·by_cases c2:o+1≤j∧j<o+1+r.length
   ·rw [if_pos c2,if_pos (by simp;omega)]
    obtain ⟨i,rfl⟩:∃ i,j=o+1+i:=⟨j-(o+1),by omega⟩;rw [show o+1+i-(o+1)=i by omega,show o+1+i-o=i+1 by omega]
    simp
   ·rw [if_neg c2,if_neg (by simp;omega),List.getElem?_set,if_neg c1]
theorem zmM {n s i:Nat} {ce:Nat→List Value} {cs:List Value} (hs:0<s) (hl:∀ k,k<n→(ce k).length=s) (hc:cs.length=s) (hi:i<n):spl (catN n ce) (i*s) cs=catN n (upd ce i cs):=by
 have hl':∀ k,k<n→(upd ce i cs k).length=s:=fun k hk=>by
  by_cases c:k=i
  ·subst c;rw [zaZ];exact hc
  ·rw [za5 ce cs c];exact hl k hk
 have hb:i*s+s≤n*s:=by
  have:=Nat.mul_le_mul_right s (show i+1≤n from hi);rw [Nat.succ_mul] at this;exact this
 apply List.ext_getElem?
 intro j;rw [zny _ _ _ _ (by rw [zbO hl,hc];exact hb)]
 by_cases hj:j<n*s
 ·have e3:j/s*s+j%s=j:=by rw [Nat.mul_comm];exact Nat.div_add_mod j s
  have e1:j/s<n:=Nat.div_lt_of_lt_mul (by rw [Nat.mul_comm];exact hj);have e2:j%s<s:=Nat.mod_lt _ hs;have g1:=zco hl e1 e2;have g2:=zco hl' e1 e2;rw [e3] at g1 g2;rw [g1,g2]
  by_cases c:j/s=i
  ·have h5:i*s≤j∧j<i*s+cs.length:=by rw [← c,hc];omega
   rw [if_pos h5,c,zaZ]
   congr 1
   rw [← c];omega
  ·rw [za5 ce cs c,if_neg]
   rw [hc];intro hh
   apply c
   have:=Nat.div_eq_of_lt_le (m:=j) (n:=s) (k:=i) (by rw [Nat.mul_comm] at *;omega) (by rw [Nat.succ_mul];omega);exact this
 ·rw [if_neg (by rw [hc];omega),List.getElem?_eq_none (l:=catN n ce) (by rw [zbO hl];omega),List.getElem?_eq_none (l:=catN n (upd ce i cs)) (by rw [zbO hl'];omega)]
theorem zh7 {lo:Nat} {t:TypeId} {s g cap n:Nat} (cs:List Value):∀ (w:World) (xs:List Value) (o:Nat),w.ownsRow lo t s (.slice (some ⟨g,0,none⟩) n cap) n xs→(w.setCells g o cs).ownsRow lo t s (.slice (some ⟨g,0,none⟩) n cap) n (spl xs o cs):=by
 induction cs with
 | nil=>intro w xs o h;exact h
 | cons v r ih=>intro w xs o h;exact ih _ _ _ (h.stored o v).1
theorem zcg (g:Nat) (cs:List Value):∀ (w:World) (o:Nat),ChgL [g] w (w.setCells g o cs):=by
 induction cs with
 | nil=>intro w o;exact ChgL.refl _ _
 | cons v r ih=>intro w o;exact (ChgL.store [g] w g o v (by simp)).trans (ih _ _)
section
variable {α:Type} {E:Lay α} {t:TypeId} {w:World} {lo hi n g cap:Nat} {x:Nat→α} {ce:Nat→List Value}
theorem View.drew {v:Value} (h:View E t w lo hi v n x ce):View E t w.drew lo hi v n x ce:=h.kept (fun _ _=>rfl) ⟨rfl,rfl,rfl,Nat.le_refl _,fun _ _=>rfl⟩
theorem View.congr2 {v:Value} {y:Nat→α} {cy:Nat→List Value} (h:View E t w lo hi v n x ce) (hy:∀ i,i<n→x i=y i) (hc:∀ i,i<n→ce i=cy i):View E t w lo hi v n y cy:=⟨by rw [← za7 hc];exact h.row,fun i hi=>by rw [← hy i hi,← hc i hi];exact h.each i hi⟩
theorem View.range (h:View E t w lo hi (.slice (some ⟨g,0,none⟩) n cap) n x ce) {i:Nat} (hi':i<n):w.rangeAt g (i*E.sz) (ce i):=fun j v hv=>by
 have hj:j<E.sz:=by rw [← h.lens i hi'];exact (List.getElem?_eq_some_iff.1 hv).1
 rw [h.cell hi' hj];exact hv
theorem View.there (h:View E t w lo hi (.slice (some ⟨g,0,none⟩) n cap) n x ce) {i:Nat} (hi':i<n):w.there g (i*E.sz) E.sz:=fun j hj=>by
 refine ⟨?_,h.row.frozenAt _⟩;rw [h.cell hi' hj,List.getElem?_eq_getElem (by rw [h.lens i hi'];exact hj)];rfl
theorem View.put (h:View E t w lo hi (.slice (some ⟨g,0,none⟩) n cap) n x ce) (hs:0<E.sz) (hlo:hi≤lo) {i:Nat} (hi':i<n) {a:α} {cs:List Value} (ha:E.rd w hi a cs) :
 View E t (w.setCells g (i*E.sz) cs) lo hi (.slice (some ⟨g,0,none⟩) n cap) n (upd x i a) (upd ce i cs):=by
 have hg:=h.row.lt g rfl;have hb:Below lo w (w.setCells g (i*E.sz) cs):=(zcg g cs w _).bel (fun b hb=>by simp at hb;omega) (by omega);refine ⟨?_,fun m hm=>?_⟩
 ·have:=zh7 cs w _ (i*E.sz) h.row
  rw [zmM hs h.lens (E.rd_len ha) hi'] at this;exact this
 ·by_cases c:m=i
  ·subst c
   rw [zaZ,zaZ];exact E.rd_below ha hb hlo
  ·rw [za5 x a c,za5 ce _ c]
   exact E.rd_below (h.each m hm) hb hlo
end
end Go.Proofs.YthbpmbgfddpffaaGreat
namespace Go.Proofs.YthbpmbgfddpffaaGreat
open Go.RowKit
section
variable {P:Program} {ops:Array Oper} {Q:Exit→Act→World→Prop} {md:Region.Mode} {S:World→Prop} {L:Nat}
def zcD (P:Program) (md:Region.Mode) (ops:Array Oper) (Q:Exit→Act→World→Prop) (S:World→Prop) (L:Nat):Nat→Array Bool→Act→World→Prop
 | 0,listed,a,w=>Region.ready md ops listed=[]∧Q .normal a w
 | fuel+1,listed,a,w=>
  (Region.ready md ops listed=[]→Q .normal a w)∧
  ∀ i∈Region.ready md ops listed,wpOp P ops Q i (fun a' w'=>(i≠L→S w')∧zcD P md ops Q S L fuel (listed.setIfInBounds i true) a' w') a w
theorem zgs:∀ (fuel:Nat) (listed:Array Bool) (a:Act) (w:World),zcD P md ops Q S L fuel listed a w→wpAny P md ops Q fuel listed a w
 | 0,_,_,_,h=>h
 | fuel+1,_,_,_,h=>⟨h.1,fun i hi=>wpOp_mono (fun a' w' h'=>zgs fuel _ a' w' h'.2) (h.2 i hi)⟩
def zdF (md:Region.Mode) (ops:Array Oper) (listed:Array Bool):Prop:=
 ∀ j oj,ops[j]?=some oj→listed.getD j false=true→∀ e∈oj.after,Region.binds md e=true→listed.getD e.on false=true
def zch (md:Region.Mode) (ops:Array Oper) (listed:Array Bool):Bool:=
 (List.range ops.size).all fun j=>!listed.getD j false||((ops[j]?).map (·.after.all fun e=>!Region.binds md e||listed.getD e.on false)).getD false
theorem zeq {listed:Array Bool} (h:zch md ops listed=true):zdF md ops listed:=fun j oj hj hl e he hb=>by
 unfold zch at h;have hlt:j<ops.size:=(Array.getElem?_eq_some_iff.1 hj).1;have h1:=List.all_eq_true.1 h j (List.mem_range.2 hlt);rw [hl,hj] at h1
 simp only [Bool.not_true,Bool.false_or,Option.map_some,Option.getD_some,Array.all_eq_true_iff_forall_mem] at h1
 have h2:=h1 e he;rw [hb] at h2
 simpa using h2
theorem zd7 {listed:Array Bool} {j:Nat} (h:zdF md ops listed) (hj:j∈Region.ready md ops listed):zdF md ops (listed.setIfInBounds j true):=fun k ok hk hl e he hb=>by
 obtain ⟨_,o,ho,hall⟩:=mem_ready.1 hj
 by_cases c:j=k
 ·subst c
  rw [hk] at ho
  cases ho
  exact getD_set_true (hall e he hb)
 ·rw [getD_set_ne false c] at hl
  exact getD_set_true (h k ok hk hl e he hb)
def depB (md:Region.Mode) (ops:Array Oper):Nat→Nat→Nat→Bool
 | 0,l,i=>l==i
 | n+1,l,i=>l==i||((ops[l]?).map (·.after.any fun e=>Region.binds md e&&depB md ops n e.on i)).getD false
theorem zeJ {listed:Array Bool} (hc:zdF md ops listed):∀ (n l i:Nat),depB md ops n l i=true→listed.getD l false=true→listed.getD i false=true
 | 0,l,i,h,hl=>by
  unfold depB at h
  have:l=i:=by simpa using h
  rw [← this];exact hl
 | n+1,l,i,h,hl=>by
  unfold depB at h
  rcases Bool.or_eq_true _ _ ▸ h with h1 | h1
  ·have:l=i:=by simpa using h1
   rw [← this];exact hl
  ·cases ho:ops[l]? with
   | none=>rw [ho] at h1;simp at h1
   | some o=>
    rw [ho] at h1
    simp only [Option.map_some,Option.getD_some] at h1
    obtain ⟨k,hk,hbk⟩:=Array.any_eq_true.1 h1;obtain ⟨hb,hd⟩:=Bool.and_eq_true _ _ ▸ hbk;exact zeJ hc n _ i hd (hc l o ho hl _ (Array.getElem_mem hk) hb)
theorem zh8 {listed:Array Bool} (hc:zdF md ops listed) {n i:Nat} (hne:L≠i) (hd:depB md ops n L i=true) (hi:listed.getD i false=false):L∉Region.ready md ops listed:=fun hL=>by
 obtain ⟨_,o,ho,hall⟩:=mem_ready.1 hL
 cases n with
 | zero=>unfold depB at hd;exact hne (by simpa using hd)
 | succ n=>
  unfold depB at hd
  rcases Bool.or_eq_true _ _ ▸ hd with h1 | h1
  ·exact hne (by simpa using h1)
  ·rw [ho] at h1
   simp only [Option.map_some,Option.getD_some] at h1
   obtain ⟨k,hk,hbk⟩:=Array.any_eq_true.1 h1;obtain ⟨hb,hd'⟩:=Bool.and_eq_true _ _ ▸ hbk;have:=zeJ hc n _ i hd' (hall _ (Array.getElem_mem hk) hb);rw [hi] at this
   cases this
theorem zbD {listed:Array Bool} {i:Nat} (h:listed.getD i true=false):listed.getD i false=false:=by
 rcases Nat.lt_or_ge i listed.size with h' | h'
 ·simpa [h'] using h
 ·simp [Array.getElem?_eq_none h'] at h
theorem zh9 {i:Nat} {oi:Oper} {v:Value} (hi:ops[i]?=some oi) (hsel:∀ (j:Nat) (o:Oper) cs b,ops[j]?=some o→o.op≠.select cs b)
 (hQ:∀ c a w,Q (.panic c) (a.put oi.dst v) w→Q (.panic c) a w) (hLi:L≠i) {n:Nat} (hd:depB md ops n L i=true) :
 ∀ (fuel:Nat) (listed:Array Bool) (a:Act) (w:World),zdF md ops listed→
  (∀ j oj,ops[j]?=some oj→j≠i→listed.getD j true=false→(∀ e∈oj.after,Region.binds md e=true→e.on≠i)→oi.apart ops oj=true)→
  i∈Region.ready md ops listed→YieldsIf P ops S oi v a→S w→
  zcD P md ops Q S L fuel (listed.setIfInBounds i true) (a.put oi.dst v) w→zcD P md ops Q S L (fuel+1) listed a w:=by
 intro fuel
 induction fuel with
 | zero=>
  intro listed a w _ _ hr hy hS H;refine ⟨fun h=>(by rw [h] at hr;cases hr),fun j hj=>?_⟩
  by_cases hji:j=i
  ·subst hji;exact hy.wpOp hi hS ⟨fun _=>hS,H⟩
  ·have:=ready_mono hj hji
   rw [H.1] at this
   cases this
 | succ fuel ih=>
  intro listed a w hcl hfree hr hy hS H;refine ⟨fun h=>(by rw [h] at hr;cases hr),fun j hj=>?_⟩
  by_cases hji:j=i
  ·subst hji;exact hy.wpOp hi hS ⟨fun _=>hS,H⟩
  ·have hjL:j≠L:=fun h=>by
    subst h;exact zh8 hcl hLi hd (zbD (mem_ready.1 hr).1) hj
   have h1:=H.2 j (ready_mono hj hji);obtain ⟨hjun,oj,hoj,hall⟩:=mem_ready.1 hj
   have hnot:∀ e∈oj.after,Region.binds md e=true→e.on≠i:=fun e he hb heq=>by
    have h1:=hall e he hb;have h0:=zbD (mem_ready.1 hr).1;rw [heq,h0] at h1
    cases h1
   have h2:=wpOp_putIf hoj (hfree j oj hoj hji hjun hnot) (fun cs b=>hsel i oi cs b hi) (fun cs b=>hsel j oj cs b hoj) hQ hy h1
   have hfree':∀ k ok,ops[k]?=some ok→k≠i→(listed.setIfInBounds j true).getD k true=false→
    (∀ e∈ok.after,Region.binds md e=true→e.on≠i)→oi.apart ops ok=true:=fun k ok hk hki hun hno=>by
    refine hfree k ok hk hki ?_ hno
    by_cases hjk:j=k
    ·subst hjk;exact hjun
    ·rw [getD_set_ne true hjk] at hun;exact hun
   refine wpOp_mono (fun a' w' h3=>⟨h3.2.1,ih (listed.setIfInBounds j true) a' w' (zd7 hcl hj) hfree' (ready_mono hr (Ne.symm hji)) h3.1 (h3.2.1 hjL) ?_⟩) h2;rw [Array.setIfInBounds_comm _ _ hji];exact h3.2.2
theorem zac {i:Nat} {oi:Oper} {v:Value} {fuel:Nat} {listed:Array Bool} {a:Act} {w:World} (n:Nat) (hi:ops[i]?=some oi)
 (hs:(Region.noSelect ops&&Region.free md ops listed i&&(Region.ready md ops listed).contains i&&!(L==i)&&depB md ops n L i&&zch md ops listed)=true)
 (hQ:∀ c a w,Q (.panic c) (a.put oi.dst v) w→Q (.panic c) a w) (hy:YieldsIf P ops S oi v a) (hS:S w)
 (h:zcD P md ops Q S L fuel (listed.setIfInBounds i true) (a.put oi.dst v) w):zcD P md ops Q S L (fuel+1) listed a w:=by
 simp only [Bool.and_eq_true,Bool.not_eq_true',beq_eq_false_iff_ne] at hs
 obtain ⟨⟨⟨⟨⟨h1,h2⟩,h3⟩,h4⟩,h5⟩,h6⟩:=hs;exact zh9 hi (Region.noSelect_spec h1) hQ h4 h5 fuel listed a w (zeq h6) (Region.free_spec hi h2) (by simpa using h3) hy hS h
theorem zn5 (i:Nat) {oi:Oper} {v:Value} {fuel:Nat} {listed:Array Bool} {a:Act} {w:World} (hi:ops[i]?=some oi) (hy:∀ w,S w→(execOp a.eval oi).run P w=.ok (.value v) w) (h:zcD P md ops Q S L fuel (listed.setIfInBounds i true) (a.put oi.dst v) w) (hs:(Region.noSelect ops && Region.free md ops listed i && (Region.ready md ops listed).contains i && !(L==i) && depB md ops 16 L i && zch md ops listed)=true:=by kernel_rfl) (hQ:∀ c a w,Q (.panic c) (a.put oi.dst v) w→Q (.panic c) a w:=by exact fun _ _ _ h=>h) (hw:Region.wanted oi (yielded ops a.tmps)=true:=by first | rfl | kernel_rfl) (hS:S w:=by assumption):zcD P md ops Q S L (fuel+1) listed a w:=zac 16 hi hs hQ (Or.inl ⟨hw,hy⟩) hS h
theorem zn6 (i:Nat) {oi:Oper} {v:Value} {fuel:Nat} {listed:Array Bool} {a:Act} {w:World} (hi:ops[i]?=some oi) (h:zcD P md ops Q S L fuel (listed.setIfInBounds i true) (a.put oi.dst v) w) (hy:∀ w,S w→(execOp a.eval oi).run P w=.ok (.value v) w:=by intro w' hSw;(try dsimp only at hSw);(repeat (have _q:=And.left hSw;replace hSw:=And.right hSw));go_simp;try with_reducible rfl) (hs:(Region.noSelect ops && Region.free md ops listed i && (Region.ready md ops listed).contains i && !(L==i) && depB md ops 16 L i && zch md ops listed)=true:=by kernel_rfl) (hQ:∀ c a w,Q (.panic c) (a.put oi.dst v) w→Q (.panic c) a w:=by exact fun _ _ _ h=>h) (hw:Region.wanted oi (yielded ops a.tmps)=true:=by first | kernel_rfl | rfl) (hS:S w:=by assumption):zcD P md ops Q S L (fuel+1) listed a w:=zac 16 hi hs hQ (Or.inl ⟨hw,hy⟩) hS h
theorem zaX {i:Nat} {o:Oper} {fuel:Nat} {listed:Array Bool} {a:Act} {w:World} (ho:ops[i]?=some o) (hr:Region.ready md ops listed=[i])
 (h:∀ K':Act→World→Prop,Shut (∀ a w,S w→(S w→zcD P md ops Q S L fuel (listed.setIfInBounds i true) a w)→K' a w)→if Region.wanted o (yielded ops a.tmps)=true then Oper.wp P o a w K' Q else K' (a.put o.dst undef) w):zcD P md ops Q S L (fuel+1) listed a w:=by
 refine ⟨fun h0=>(by rw [hr] at h0;cases h0),fun j hj=>?_⟩;rw [hr] at hj
 obtain rfl:j=i:=by simpa using hj
 exact wpOp_step ho (fun K' hK=>h K' (fun a w hS hW=>hK a w ⟨fun _=>hS,hW hS⟩))
theorem zbY {o:Oper} {fuel:Nat} {listed:Array Bool} {a:Act} {w:World} (ho:ops[L]?=some o) (hr:Region.ready md ops listed=[L])
 (h:∀ K':Act→World→Prop,Shut (∀ a w,zcD P md ops Q S L fuel (listed.setIfInBounds L true) a w→K' a w)→if Region.wanted o (yielded ops a.tmps)=true then Oper.wp P o a w K' Q else K' (a.put o.dst undef) w):zcD P md ops Q S L (fuel+1) listed a w:=by
 refine ⟨fun h0=>(by rw [hr] at h0;cases h0),fun j hj=>?_⟩;rw [hr] at hj
 obtain rfl:j=L:=by simpa using hj
 exact wpOp_step ho (fun K' hK=>h K' (fun a w hW=>hK a w ⟨fun hn=>absurd rfl hn,hW⟩))
theorem zbZ {listed:Array Bool} {a:Act} {w:World} (hr:Region.ready md ops listed=[]) (h:Q .normal a w):∀ fuel,zcD P md ops Q S L fuel listed a w
 | 0=>⟨hr,h⟩
 | _+1=>⟨fun _=>h,by rw [hr];simp⟩
theorem zb0 {id:Nat} {a:Act} {w:World} (L:Nat) (S:World→Prop) (hm:P.follows .mixedOrders=true) (hS:S w.drew)
 (h:S w.drew→zcD P .any ops Q S L ops.size (Array.replicate ops.size false) a w.drew):(Code.region id ops true).wp P Q a w:=
 wp_region_any hm (zgs _ _ _ _ (h hS))
end
theorem SL {α : Type} : (∀ (l : List α) (i : Nat) (v : α), l.toArray.setIfInBounds i v = (l.set i v).toArray) ∧ (∀ (a : α) (l : List α) (b : α), (a :: l).set 0 b = b :: l) ∧ (∀ (a : α) (l : List α) (n : Nat) (b : α), (a :: l).set (n + 1) b = a :: l.set n b) ∧ (∀ (l : List α) (i : Nat) (h : i < l.toArray.size), l.toArray[i] = l[i]'(by simpa using h)) ∧ (∀ (a : α) (l : List α) (n : Nat) (h : n + 1 < (a :: l).length), (a :: l)[n + 1] = l[n]'(by simpa using h)) ∧ ∀ (a : α) (l : List α) (h : 0 < (a :: l).length), (a :: l)[0] = a := ⟨fun _ _ _ => List.setIfInBounds_toArray .., fun _ _ _ => rfl, fun _ _ _ _ => rfl, fun _ _ _ => rfl, fun _ _ _ _ => rfl, fun _ _ _ => rfl⟩
section
variable {P:Program} {ops:Array Oper} {Q:Exit→Act→World→Prop} {md:Region.Mode} {S:World→Prop} {L:Nat}
def zbf (P:Program) (md:Region.Mode) (ops:Array Oper) (Q:Exit→Act→World→Prop) (S:World→Prop) (L:Nat):Nat→Array Bool→Act→World→Prop
 | 0,listed,a,w=>Region.ready md ops listed=[]∧Q .normal a w
 | fuel+1,listed,a,w=>
  (Region.ready md ops listed=[]→Q .normal a w)∧
  ∀ i∈Region.ready md ops listed,wpOp P ops Q i (fun a' w'=>((listed.setIfInBounds i true).getD L false=false→S w')∧zbf P md ops Q S L fuel (listed.setIfInBounds i true) a' w') a w
theorem zgt:∀ (fuel:Nat) (listed:Array Bool) (a:Act) (w:World),zbf P md ops Q S L fuel listed a w→wpAny P md ops Q fuel listed a w
 | 0,_,_,_,h=>h
 | fuel+1,_,_,_,h=>⟨h.1,fun i hi=>wpOp_mono (fun a' w' h'=>zgt fuel _ a' w' h'.2) (h.2 i hi)⟩
theorem zia {i:Nat} {oi:Oper} {v:Value} (hi:ops[i]?=some oi) (hsel:∀ (j:Nat) (o:Oper) cs b,ops[j]?=some o→o.op≠.select cs b)
 (hQ:∀ c a w,Q (.panic c) (a.put oi.dst v) w→Q (.panic c) a w) (hLi:L≠i) {n:Nat} (hd:depB md ops n L i=true) :
 ∀ (fuel:Nat) (listed:Array Bool) (a:Act) (w:World),zdF md ops listed→
  (∀ j oj,ops[j]?=some oj→j≠i→listed.getD j true=false→(∀ e∈oj.after,Region.binds md e=true→e.on≠i)→oi.apart ops oj=true)→
  i∈Region.ready md ops listed→YieldsIf P ops S oi v a→S w→
  zbf P md ops Q S L fuel (listed.setIfInBounds i true) (a.put oi.dst v) w→zbf P md ops Q S L (fuel+1) listed a w:=by
 intro fuel
 induction fuel with
 | zero=>
  intro listed a w _ _ hr hy hS H;refine ⟨fun h=>(by rw [h] at hr;cases hr),fun j hj=>?_⟩
  by_cases hji:j=i
  ·subst hji;exact hy.wpOp hi hS ⟨fun _=>hS,H⟩
  ·have:=ready_mono hj hji
   rw [H.1] at this
   cases this
 | succ fuel ih=>
  intro listed a w hcl hfree hr hy hS H;refine ⟨fun h=>(by rw [h] at hr;cases hr),fun j hj=>?_⟩
  by_cases hji:j=i
  ·subst hji;exact hy.wpOp hi hS ⟨fun _=>hS,H⟩
  ·have hjL:j≠L:=fun h=>by
    subst h;exact zh8 hcl hLi hd (zbD (mem_ready.1 hr).1) hj
   have h1:=H.2 j (ready_mono hj hji);obtain ⟨hjun,oj,hoj,hall⟩:=mem_ready.1 hj
   have hnot:∀ e∈oj.after,Region.binds md e=true→e.on≠i:=fun e he hb heq=>by
    have h1:=hall e he hb;have h0:=zbD (mem_ready.1 hr).1;rw [heq,h0] at h1
    cases h1
   have h2:=wpOp_putIf hoj (hfree j oj hoj hji hjun hnot) (fun cs b=>hsel i oi cs b hi) (fun cs b=>hsel j oj cs b hoj) hQ hy h1
   have hfree':∀ k ok,ops[k]?=some ok→k≠i→(listed.setIfInBounds j true).getD k true=false→
    (∀ e∈ok.after,Region.binds md e=true→e.on≠i)→oi.apart ops ok=true:=fun k ok hk hki hun hno=>by
    refine hfree k ok hk hki ?_ hno
    by_cases hjk:j=k
    ·subst hjk;exact hjun
    ·rw [getD_set_ne true hjk] at hun;exact hun
   have hLn:(listed.setIfInBounds j true).getD L false=false:=by
    rw [getD_set_ne false hjL]
    cases hg:listed.getD L false with
    | false=>rfl
    | true=>have:=zeJ hcl n L i hd hg;rw [zbD (mem_ready.1 hr).1] at this;cases this
   have hLn2:((listed.setIfInBounds i true).setIfInBounds j true).getD L false=false:=by
    rw [← Array.setIfInBounds_comm _ _ hji,getD_set_ne false (Ne.symm hLi)];exact hLn
   refine wpOp_mono (fun a' w' h3=>⟨fun _=>h3.2.1 hLn2,ih (listed.setIfInBounds j true) a' w' (zd7 hcl hj) hfree' (ready_mono hr (Ne.symm hji)) h3.1 (h3.2.1 hLn2) ?_⟩) h2;rw [Array.setIfInBounds_comm _ _ hji];exact h3.2.2
theorem zeV {i:Nat} {oi:Oper} {v:Value} (hi:ops[i]?=some oi) (hsel:∀ (j:Nat) (o:Oper) cs b,ops[j]?=some o→o.op≠.select cs b)
 (hQ:∀ c a w,Q (.panic c) (a.put oi.dst v) w→Q (.panic c) a w) (hLi:L≠i) :
 ∀ (fuel:Nat) (listed:Array Bool) (a:Act) (w:World),zdF md ops listed→
  (∀ j oj,ops[j]?=some oj→j≠i→listed.getD j true=false→(∀ e∈oj.after,Region.binds md e=true→e.on≠i)→oi.apart ops oj=true)→
  i∈Region.ready md ops listed→YieldsIf P ops (fun _=>True) oi v a→((listed.setIfInBounds i true).getD L false=false→S w)→
  zbf P md ops Q S L fuel (listed.setIfInBounds i true) (a.put oi.dst v) w→zbf P md ops Q S L (fuel+1) listed a w:=by
 intro fuel
 induction fuel with
 | zero=>
  intro listed a w _ _ hr hy hS H;refine ⟨fun h=>(by rw [h] at hr;cases hr),fun j hj=>?_⟩
  by_cases hji:j=i
  ·subst hji;exact hy.wpOp hi trivial ⟨hS,H⟩
  ·have:=ready_mono hj hji
   rw [H.1] at this
   cases this
 | succ fuel ih=>
  intro listed a w hcl hfree hr hy hS H;refine ⟨fun h=>(by rw [h] at hr;cases hr),fun j hj=>?_⟩
  by_cases hji:j=i
  ·subst hji;exact hy.wpOp hi trivial ⟨hS,H⟩
  ·skip
   have h1:=H.2 j (ready_mono hj hji);obtain ⟨hjun,oj,hoj,hall⟩:=mem_ready.1 hj
   have hnot:∀ e∈oj.after,Region.binds md e=true→e.on≠i:=fun e he hb heq=>by
    have h1:=hall e he hb;have h0:=zbD (mem_ready.1 hr).1;rw [heq,h0] at h1
    cases h1
   have h2:=wpOp_putIf hoj (hfree j oj hoj hji hjun hnot) (fun cs b=>hsel i oi cs b hi) (fun cs b=>hsel j oj cs b hoj) hQ hy h1
   have hfree':∀ k ok,ops[k]?=some ok→k≠i→(listed.setIfInBounds j true).getD k true=false→
    (∀ e∈ok.after,Region.binds md e=true→e.on≠i)→oi.apart ops ok=true:=fun k ok hk hki hun hno=>by
    refine hfree k ok hk hki ?_ hno
    by_cases hjk:j=k
    ·subst hjk;exact hjun
    ·rw [getD_set_ne true hjk] at hun;exact hun
   refine wpOp_mono (fun a' w' h3=>?_) h2;have hk:((listed.setIfInBounds j true).setIfInBounds i true).getD L false=false→S w':=fun hn=>h3.2.1 (by rw [Array.setIfInBounds_comm _ _ (Ne.symm hji)];exact hn);refine ⟨fun hn=>?_,ih (listed.setIfInBounds j true) a' w' (zd7 hcl hj) hfree' (ready_mono hr (Ne.symm hji)) h3.1 hk ?_⟩
   ·exact hk (by rw [getD_set_ne false (Ne.symm hLi)];exact hn)
   ·rw [Array.setIfInBounds_comm _ _ hji]
    exact h3.2.2
theorem zaa {i:Nat} {oi:Oper} {v:Value} {fuel:Nat} {listed:Array Bool} {a:Act} {w:World} (hi:ops[i]?=some oi)
 (hs:(Region.noSelect ops&&Region.free md ops listed i&&(Region.ready md ops listed).contains i&&!(L==i)&&zch md ops listed)=true)
 (hQ:∀ c a w,Q (.panic c) (a.put oi.dst v) w→Q (.panic c) a w) (hy:YieldsIf P ops (fun _=>True) oi v a) (hS:S w)
 (h:zbf P md ops Q S L fuel (listed.setIfInBounds i true) (a.put oi.dst v) w):zbf P md ops Q S L (fuel+1) listed a w:=by
 simp only [Bool.and_eq_true,Bool.not_eq_true',beq_eq_false_iff_ne] at hs
 obtain ⟨⟨⟨⟨h1,h2⟩,h3⟩,h4⟩,h6⟩:=hs;exact zeV hi (Region.noSelect_spec h1) hQ h4 fuel listed a w (zeq h6) (Region.free_spec hi h2) (by simpa using h3) hy (fun _=>hS) h
theorem zak {i:Nat} {oi:Oper} {v:Value} {fuel:Nat} {listed:Array Bool} {a:Act} {w:World} (hi:ops[i]?=some oi)
 (hs:(Region.noSelect ops&&Region.free md ops listed i&&(Region.ready md ops listed).contains i&&!(L==i)&&zch md ops listed&&listed.getD L false)=true)
 (hQ:∀ c a w,Q (.panic c) (a.put oi.dst v) w→Q (.panic c) a w) (hy:YieldsIf P ops (fun _=>True) oi v a)
 (h:zbf P md ops Q S L fuel (listed.setIfInBounds i true) (a.put oi.dst v) w):zbf P md ops Q S L (fuel+1) listed a w:=by
 simp only [Bool.and_eq_true,Bool.not_eq_true',beq_eq_false_iff_ne] at hs
 obtain ⟨⟨⟨⟨⟨h1,h2⟩,h3⟩,h4⟩,h6⟩,h7⟩:=hs;exact zeV hi (Region.noSelect_spec h1) hQ h4 fuel listed a w (zeq h6) (Region.free_spec hi h2) (by simpa using h3) hy (fun hn=>by rw [getD_set_ne false (Ne.symm h4),h7] at hn;cases hn) h
theorem zaf {i:Nat} {oi:Oper} {v:Value} {fuel:Nat} {listed:Array Bool} {a:Act} {w:World} (n:Nat) (hi:ops[i]?=some oi)
 (hs:(Region.noSelect ops&&Region.free md ops listed i&&(Region.ready md ops listed).contains i&&!(L==i)&&depB md ops n L i&&zch md ops listed)=true)
 (hQ:∀ c a w,Q (.panic c) (a.put oi.dst v) w→Q (.panic c) a w) (hy:YieldsIf P ops S oi v a) (hS:S w)
 (h:zbf P md ops Q S L fuel (listed.setIfInBounds i true) (a.put oi.dst v) w):zbf P md ops Q S L (fuel+1) listed a w:=by
 simp only [Bool.and_eq_true,Bool.not_eq_true',beq_eq_false_iff_ne] at hs
 obtain ⟨⟨⟨⟨⟨h1,h2⟩,h3⟩,h4⟩,h5⟩,h6⟩:=hs;exact zia hi (Region.noSelect_spec h1) hQ h4 h5 fuel listed a w (zeq h6) (Region.free_spec hi h2) (by simpa using h3) hy hS h
theorem zn7 (i:Nat) {oi:Oper} {v:Value} {fuel:Nat} {listed:Array Bool} {a:Act} {w:World} (hi:ops[i]?=some oi) (hy:∀ w,True→(execOp a.eval oi).run P w=.ok (.value v) w) (h:zbf P md ops Q S L fuel (listed.setIfInBounds i true) (a.put oi.dst v) w) (hs:(Region.noSelect ops && Region.free md ops listed i && (Region.ready md ops listed).contains i && !(L==i) && zch md ops listed)=true:=by kernel_rfl) (hQ:∀ c a w,Q (.panic c) (a.put oi.dst v) w→Q (.panic c) a w:=by exact fun _ _ _ h=>h) (hw:Region.wanted oi (yielded ops a.tmps)=true:=by first | kernel_rfl | rfl) (hS:S w:=by assumption):zbf P md ops Q S L (fuel+1) listed a w:=zaa hi hs hQ (Or.inl ⟨hw,hy⟩) hS h
theorem znS (i:Nat) {oi:Oper} {v:Value} {fuel:Nat} {listed:Array Bool} {a:Act} {w:World} (hi:ops[i]?=some oi) (hy:∀ w,True→(execOp a.eval oi).run P w=.ok (.value v) w) (h:zbf P md ops Q S L fuel (listed.setIfInBounds i true) (a.put oi.dst v) w) (hs:(Region.noSelect ops && Region.free md ops listed i && (Region.ready md ops listed).contains i && !(L==i) && zch md ops listed && listed.getD L false)=true:=by kernel_rfl) (hQ:∀ c a w,Q (.panic c) (a.put oi.dst v) w→Q (.panic c) a w:=by exact fun _ _ _ h=>h) (hw:Region.wanted oi (yielded ops a.tmps)=true:=by first | kernel_rfl | rfl):zbf P md ops Q S L (fuel+1) listed a w:=zak hi hs hQ (Or.inl ⟨hw,hy⟩) h
theorem zn8 (i:Nat) {oi:Oper} {v:Value} {fuel:Nat} {listed:Array Bool} {a:Act} {w:World} (hi:ops[i]?=some oi) (hy:∀ w,S w→(execOp a.eval oi).run P w=.ok (.value v) w) (h:zbf P md ops Q S L fuel (listed.setIfInBounds i true) (a.put oi.dst v) w) (hs:(Region.noSelect ops && Region.free md ops listed i && (Region.ready md ops listed).contains i && !(L==i) && depB md ops 16 L i && zch md ops listed)=true:=by kernel_rfl) (hQ:∀ c a w,Q (.panic c) (a.put oi.dst v) w→Q (.panic c) a w:=by exact fun _ _ _ h=>h) (hw:Region.wanted oi (yielded ops a.tmps)=true:=by first | kernel_rfl | rfl) (hS:S w:=by assumption):zbf P md ops Q S L (fuel+1) listed a w:=zaf 16 hi hs hQ (Or.inl ⟨hw,hy⟩) hS h
theorem zn9 (i:Nat) {oi:Oper} {v:Value} {fuel:Nat} {listed:Array Bool} {a:Act} {w:World} (hi:ops[i]?=some oi) (h:zbf P md ops Q S L fuel (listed.setIfInBounds i true) (a.put oi.dst v) w) (hy:∀ w,True→(execOp a.eval oi).run P w=.ok (.value v) w:=by intro w' hSw;go_simp;try with_reducible rfl) (hs:(Region.noSelect ops && Region.free md ops listed i && (Region.ready md ops listed).contains i && !(L==i) && zch md ops listed)=true:=by kernel_rfl) (hQ:∀ c a w,Q (.panic c) (a.put oi.dst v) w→Q (.panic c) a w:=by exact fun _ _ _ h=>h) (hw:Region.wanted oi (yielded ops a.tmps)=true:=by first | kernel_rfl | rfl) (hS:S w:=by assumption):zbf P md ops Q S L (fuel+1) listed a w:=zaa hi hs hQ (Or.inl ⟨hw,hy⟩) hS h
theorem zoa (i:Nat) {oi:Oper} {v:Value} {fuel:Nat} {listed:Array Bool} {a:Act} {w:World} (hi:ops[i]?=some oi) (h:zbf P md ops Q S L fuel (listed.setIfInBounds i true) (a.put oi.dst v) w) (hy:∀ w,S w→(execOp a.eval oi).run P w=.ok (.value v) w:=by intro w' hSw;(try dsimp only at hSw);(repeat (have _q:=And.left hSw;replace hSw:=And.right hSw));go_simp;try with_reducible rfl) (hs:(Region.noSelect ops && Region.free md ops listed i && (Region.ready md ops listed).contains i && !(L==i) && depB md ops 16 L i && zch md ops listed)=true:=by kernel_rfl) (hQ:∀ c a w,Q (.panic c) (a.put oi.dst v) w→Q (.panic c) a w:=by exact fun _ _ _ h=>h) (hw:Region.wanted oi (yielded ops a.tmps)=true:=by first | kernel_rfl | rfl) (hS:S w:=by assumption):zbf P md ops Q S L (fuel+1) listed a w:=zaf 16 hi hs hQ (Or.inl ⟨hw,hy⟩) hS h
theorem zob (i:Nat) {oi:Oper} {fuel:Nat} {listed:Array Bool} {a:Act} {w:World} (hi:ops[i]?=some oi) (h:zbf P md ops Q S L fuel (listed.setIfInBounds i true) (a.put oi.dst undef) w) (hs:(Region.noSelect ops && Region.free md ops listed i && (Region.ready md ops listed).contains i && !(L==i) && zch md ops listed)=true:=by kernel_rfl) (hQ:∀ c a w,Q (.panic c) (a.put oi.dst undef) w→Q (.panic c) a w:=by exact fun _ _ _ h=>h) (hw:Region.wanted oi (yielded ops a.tmps)=false:=by kernel_rfl) (hS:S w:=by assumption):zbf P md ops Q S L (fuel+1) listed a w:=zaa hi hs hQ (Or.inr ⟨hw,rfl⟩) hS h
theorem zas {i:Nat} {o:Oper} {fuel:Nat} {listed:Array Bool} {a:Act} {w:World} (ho:ops[i]?=some o) (hr:Region.ready md ops listed=[i]) (hL:(listed.setIfInBounds i true).getD L false=true)
 (h:∀ K':Act→World→Prop,Shut (∀ a w,zbf P md ops Q S L fuel (listed.setIfInBounds i true) a w→K' a w)→if Region.wanted o (yielded ops a.tmps)=true then Oper.wp P o a w K' Q else K' (a.put o.dst undef) w):zbf P md ops Q S L (fuel+1) listed a w:=by
 refine ⟨fun h0=>(by rw [hr] at h0;cases h0),fun j hj=>?_⟩;rw [hr] at hj
 obtain rfl:j=i:=by simpa using hj
 exact wpOp_step ho (fun K' hK=>h K' (fun a w hW=>hK a w ⟨fun hn=>(by rw [hL] at hn;cases hn),hW⟩))
theorem zar {listed:Array Bool} {a:Act} {w:World} (hr:Region.ready md ops listed=[]) (h:Q .normal a w):∀ fuel,zbf P md ops Q S L fuel listed a w
 | 0=>⟨hr,h⟩
 | _+1=>⟨fun _=>h,by rw [hr];simp⟩
theorem zay {id:Nat} {a:Act} {w:World} (L:Nat) (S:World→Prop) (hm:P.follows .mixedOrders=true) (hS:S w.drew)
 (h:S w.drew→zbf P .any ops Q S L ops.size (Array.replicate ops.size false) a w.drew):(Code.region id ops true).wp P Q a w:=
 wp_region_any hm (zgt _ _ _ _ (h hS))
theorem zbw {i:Nat} {o:Oper} {fuel:Nat} {listed:Array Bool} {a:Act} {w:World} (ho:ops[i]?=some o) (hr:Region.ready md ops listed=[i]) (hL:(listed.setIfInBounds i true).getD L false=true) (hg:o.guard=none) (hd:o.dst=none) (T:TypeId) (x y:Operand) (hop:o.op=.store T x y)
 (b off:Nat) (cells:List Value) (hx:a.eval x=.pointer (some ⟨b,off,none⟩)) (hy:a.eval y=.agg cells.toArray) (ht:w.there b off cells.length) (hi:(P.info? T).map (·.size)=some cells.length) (h1:∀ v,v∈cells→v.oneCell'=true)
 (h:zbf P md ops Q S L fuel (listed.setIfInBounds i true) a (w.setCells b off cells)):zbf P md ops Q S L (fuel+1) listed a w:=by
 refine zas ho hr hL (fun KC hKC=>?_)
 have hw:Region.wanted o (yielded ops a.tmps)=true:=by simp [Region.wanted,hg]
 rw [if_pos hw];refine wp_store_mid T x y hop b off cells.toArray hx hy (by simpa using ht) (by simpa using hi) (by simpa using h1) ?_
 have e:a.put o.dst undef=a:=by rw [hd];rfl
 rw [e];exact hKC _ _ h
end
end Go.Proofs.YthbpmbgfddpffaaGreat
