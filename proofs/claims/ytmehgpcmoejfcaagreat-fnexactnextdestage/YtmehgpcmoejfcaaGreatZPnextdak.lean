/- Walks of the program's copies of records and tapes. -/
import Derived.Shelf.SlIter.Nil
import Derived.Shelf.SortM.Plain
import Derived.Shelf.SortM.SortNone
import Derived.Ground.GgzProg
import Derived.Ground.SlgmProg
import Derived.Maps.OwnSet
import Derived.WideKeyEntry
import Derived.DeepKeys4
import Derived.Test.YtmehgpcmoejfcaaGreatZPnextdaj
set_option linter.unusedVariables false
set_option linter.unusedSimpArgs false
set_option maxHeartbeats 16000000
namespace Go.Proofs.YtmehgpcmoejfcaaGreat
open Go.RowKit F256
theorem zdm:ElInfo zab 30 52 128 [.int .i64 0,.int .i64 0,.string ByteArray.empty,.int .i64 0,.int .i64 0,.int .i64 0,.slice none 0 0,.slice none 0 0,.slice none 0 0]:=⟨by decide,rfl,Tryz.underlying30,by kernel_rfl,by decide⟩
set_option maxRecDepth 20000 in
theorem zjP:ToV zab zaM 64:=fun cs d hi w r hhi hn=>by
 obtain ⟨ao6,cap6,ao7,cap7,ao8,cap8,rfl,h6,h7,h8,k0,k1,k2,k3,k4,k5⟩:=zaF r;clear r;unfold zaM at hn;have R6:=hid h6;have R7:=hid h7;have R8:=hid h8;clear h6 h7 h8;have Q0:=hid k0;have Q1:=hid k1;have Q2:=hid k2;have Q3:=hid k3;have Q4:=hid k4;have Q5:=hid k5;clear k0 k1 k2 k3 k4 k5;have T0:=zaN w (rwR d ao6 cap6 ao7 cap7 ao8 cap8).toArray #[.int .i64 0,.int .i64 0,.string ByteArray.empty,.int .i64 0,.int .i64 0,.int .i64 0,.slice none 0 0,.slice none 0 0,.slice none 0 0] 52 52
 go_enter Tryz.func64,Tryz.ntmps64
 go_wp2_with fail
 refine (zh9 _ d.rows hi _ (zam.rd_below R6.out T0.bel hhi) (Nat.le_trans hhi T0.bel.size) (by omega)).mono ?_;rintro e w1 ⟨v0,rfl,o0,b0⟩;obtain ⟨bo6,bcap6,hv⟩:=zdy o0;obtain rfl:=zbi hv;clear hv;have T0c:=T0.call b0;have z0:=T0.b2.lt;have y0:=b0.size;have c0_6:w1.cell? ⟨w.heap.size,6,none⟩=some (.slice ao6 d.rows.1 cap6):=T0c.b1.cell 6;have c0f_6:w1.frozen? ⟨w.heap.size,6,none⟩=false:=T0c.b1.frozen 6;have T1x:Two w (w1.setCell ⟨w.heap.size,6,none⟩ (.slice bo6 d.rows.1 bcap6)) (rwR d bo6 bcap6 ao7 cap7 ao8 cap8).toArray #[.int .i64 0,.int .i64 0,.string ByteArray.empty,.int .i64 0,.int .i64 0,.int .i64 0,.slice none 0 0,.slice none 0 0,.slice none 0 0] 52 52:=⟨T0c.b1.stL [.slice bo6 d.rows.1 bcap6] 6,T0c.b2.seto _ _ (by omega),T0c.bel.setCell (Nat.le_refl _) _⟩;have O6_0:=(o0.stN w.heap.size 6 [.slice bo6 d.rows.1 bcap6] (by omega))
 have e1:(w1.setCell ⟨w.heap.size,6,none⟩ (.slice bo6 d.rows.1 bcap6)).heap.size=w1.heap.size:=by simp
 clear o0 b0
 go_upto_region 2 with fail
 obtain ⟨W1,hW1⟩:∃ x,x=w1.setCell ⟨w.heap.size,6,none⟩ (.slice bo6 d.rows.1 bcap6):=⟨_,rfl⟩
 have O6:Hid (OwnT zam W1 (w.heap.size+1+1) (w1.heap.size) d.rows [.slice bo6 d.rows.1 bcap6]):=by rw [hW1];exact OwnT.weaken O6_0 (by simp) (Nat.le_refl _)
 rw [← hW1] at T1x e1 ⊢;clear hW1 O6_0 T0c c0_6 c0f_6;have a1_7:W1.cell? ⟨w.heap.size,7,none⟩=some (.slice ao7 d.data.1 cap7):=T1x.b1.cell 7
 go_wp2_with fail
 refine (zey _ d.data hi _ (zag.rd_below R7.out T1x.bel hhi) (Nat.le_trans hhi T1x.bel.size) (by omega)).mono ?_;rintro e w2 ⟨v1,rfl,o1,b1⟩;obtain ⟨bo7,bcap7,hv⟩:=zbO o1;obtain rfl:=zbi hv;clear hv;have T1c:=T1x.call b1;have z1:=T1x.b2.lt;have y1:=b1.size;have c1_7:w2.cell? ⟨w.heap.size,7,none⟩=some (.slice ao7 d.data.1 cap7):=T1c.b1.cell 7;have c1f_7:w2.frozen? ⟨w.heap.size,7,none⟩=false:=T1c.b1.frozen 7;have T2x:Two w (w2.setCell ⟨w.heap.size,7,none⟩ (.slice bo7 d.data.1 bcap7)) (rwR d bo6 bcap6 bo7 bcap7 ao8 cap8).toArray #[.int .i64 0,.int .i64 0,.string ByteArray.empty,.int .i64 0,.int .i64 0,.int .i64 0,.slice none 0 0,.slice none 0 0,.slice none 0 0] 52 52:=⟨T1c.b1.stL [.slice bo7 d.data.1 bcap7] 7,T1c.b2.seto _ _ (by omega),T1c.bel.setCell (Nat.le_refl _) _⟩;have O6_1:=(O6.out.call b1).stN w.heap.size 7 [.slice bo7 d.data.1 bcap7] (by omega);have O7_1:=(o1.stN w.heap.size 7 [.slice bo7 d.data.1 bcap7] (by omega))
 have e2:(w2.setCell ⟨w.heap.size,7,none⟩ (.slice bo7 d.data.1 bcap7)).heap.size=w2.heap.size:=by simp
 clear o1 b1 O6 T1x a1_7
 go_upto_region 3 with fail
 obtain ⟨W2,hW2⟩:∃ x,x=w2.setCell ⟨w.heap.size,7,none⟩ (.slice bo7 d.data.1 bcap7):=⟨_,rfl⟩
 have O6:Hid (OwnT zam W2 (w.heap.size+1+1) (w1.heap.size) d.rows [.slice bo6 d.rows.1 bcap6]):=by rw [hW2];exact O6_1
 have O7:Hid (OwnT zag W2 (W1.heap.size) (w2.heap.size) d.data [.slice bo7 d.data.1 bcap7]):=by rw [hW2];exact O7_1
 rw [← hW2] at T2x e2 ⊢;clear hW2 O6_1 O7_1 T1c c1_7 c1f_7;have a2_8:W2.cell? ⟨w.heap.size,8,none⟩=some (.slice ao8 d.delta.1 cap8):=T2x.b1.cell 8
 go_wp2_with fail
 refine (zey _ d.delta hi _ (zag.rd_below R8.out T2x.bel hhi) (Nat.le_trans hhi T2x.bel.size) (by omega)).mono ?_;rintro e w3 ⟨v2,rfl,o2,b2⟩;obtain ⟨bo8,bcap8,hv⟩:=zbO o2;obtain rfl:=zbi hv;clear hv;have T2c:=T2x.call b2;have z2:=T2x.b2.lt;have y2:=b2.size;have c2_8:w3.cell? ⟨w.heap.size,8,none⟩=some (.slice ao8 d.delta.1 cap8):=T2c.b1.cell 8;have c2f_8:w3.frozen? ⟨w.heap.size,8,none⟩=false:=T2c.b1.frozen 8;have T3x:Two w (w3.setCell ⟨w.heap.size,8,none⟩ (.slice bo8 d.delta.1 bcap8)) (rwR d bo6 bcap6 bo7 bcap7 bo8 bcap8).toArray #[.int .i64 0,.int .i64 0,.string ByteArray.empty,.int .i64 0,.int .i64 0,.int .i64 0,.slice none 0 0,.slice none 0 0,.slice none 0 0] 52 52:=⟨T2c.b1.stL [.slice bo8 d.delta.1 bcap8] 8,T2c.b2.seto _ _ (by omega),T2c.bel.setCell (Nat.le_refl _) _⟩;have O6_2:=(O6.out.call b2).stN w.heap.size 8 [.slice bo8 d.delta.1 bcap8] (by omega);have O7_2:=(O7.out.call b2).stN w.heap.size 8 [.slice bo8 d.delta.1 bcap8] (by omega);have O8_2:=(o2.stN w.heap.size 8 [.slice bo8 d.delta.1 bcap8] (by omega))
 have e3:(w3.setCell ⟨w.heap.size,8,none⟩ (.slice bo8 d.delta.1 bcap8)).heap.size=w3.heap.size:=by simp
 clear o2 b2 O6 O7 T2x a2_8
 go_upto_region 4 with fail
 obtain ⟨W3,hW3⟩:∃ x,x=w3.setCell ⟨w.heap.size,8,none⟩ (.slice bo8 d.delta.1 bcap8):=⟨_,rfl⟩
 have O6:Hid (OwnT zam W3 (w.heap.size+1+1) (w1.heap.size) d.rows [.slice bo6 d.rows.1 bcap6]):=by rw [hW3];exact O6_2
 have O7:Hid (OwnT zag W3 (W1.heap.size) (w2.heap.size) d.data [.slice bo7 d.data.1 bcap7]):=by rw [hW3];exact O7_2
 have O8:Hid (OwnT zag W3 (W2.heap.size) (w3.heap.size) d.delta [.slice bo8 d.delta.1 bcap8]):=by rw [hW3];exact O8_2
 rw [← hW3] at T3x e3 ⊢;clear hW3 O6_2 O7_2 O8_2 T2c c2_8 c2f_8;have y_0:W3.cell? ⟨w.heap.size,0,none⟩=some (.int .i64 d.kind):=T3x.b1.cell 0;have y_1:W3.cell? ⟨w.heap.size,1,none⟩=some (.int .i64 d.seq):=T3x.b1.cell 1;have y_2:W3.cell? ⟨w.heap.size,2,none⟩=some (.string d.name):=T3x.b1.cell 2;have y_3:W3.cell? ⟨w.heap.size,3,none⟩=some (.int .i64 d.length):=T3x.b1.cell 3;have y_4:W3.cell? ⟨w.heap.size,4,none⟩=some (.int .i64 d.group):=T3x.b1.cell 4;have y_5:W3.cell? ⟨w.heap.size,5,none⟩=some (.int .i64 d.row):=T3x.b1.cell 5;have y_6:W3.cell? ⟨w.heap.size,6,none⟩=some (.slice bo6 d.rows.1 bcap6):=T3x.b1.cell 6;have y_7:W3.cell? ⟨w.heap.size,7,none⟩=some (.slice bo7 d.data.1 bcap7):=T3x.b1.cell 7;have y_8:W3.cell? ⟨w.heap.size,8,none⟩=some (.slice bo8 d.delta.1 bcap8):=T3x.b1.cell 8;have r_0:W3.cell? ⟨w.heap.size+1,0,none⟩=some (.int .i64 0):=T3x.b2.cell 0;have rf_0:W3.frozen? ⟨w.heap.size+1,0,none⟩=false:=T3x.b2.frozen 0;have r_1:W3.cell? ⟨w.heap.size+1,1,none⟩=some (.int .i64 0):=T3x.b2.cell 1;have rf_1:W3.frozen? ⟨w.heap.size+1,1,none⟩=false:=T3x.b2.frozen 1;have r_2:W3.cell? ⟨w.heap.size+1,2,none⟩=some (.string ByteArray.empty):=T3x.b2.cell 2;have rf_2:W3.frozen? ⟨w.heap.size+1,2,none⟩=false:=T3x.b2.frozen 2;have r_3:W3.cell? ⟨w.heap.size+1,3,none⟩=some (.int .i64 0):=T3x.b2.cell 3;have rf_3:W3.frozen? ⟨w.heap.size+1,3,none⟩=false:=T3x.b2.frozen 3;have r_4:W3.cell? ⟨w.heap.size+1,4,none⟩=some (.int .i64 0):=T3x.b2.cell 4;have rf_4:W3.frozen? ⟨w.heap.size+1,4,none⟩=false:=T3x.b2.frozen 4;have r_5:W3.cell? ⟨w.heap.size+1,5,none⟩=some (.int .i64 0):=T3x.b2.cell 5;have rf_5:W3.frozen? ⟨w.heap.size+1,5,none⟩=false:=T3x.b2.frozen 5;have r_6:W3.cell? ⟨w.heap.size+1,6,none⟩=some (.slice none 0 0):=T3x.b2.cell 6;have rf_6:W3.frozen? ⟨w.heap.size+1,6,none⟩=false:=T3x.b2.frozen 6;have r_7:W3.cell? ⟨w.heap.size+1,7,none⟩=some (.slice none 0 0):=T3x.b2.cell 7;have rf_7:W3.frozen? ⟨w.heap.size+1,7,none⟩=false:=T3x.b2.frozen 7;have r_8:W3.cell? ⟨w.heap.size+1,8,none⟩=some (.slice none 0 0):=T3x.b2.cell 8;have rf_8:W3.frozen? ⟨w.heap.size+1,8,none⟩=false:=T3x.b2.frozen 8;have HB:=hid T3x.bel;have zz:=T3x.b2.lt;clear T3x;go_wp2;refine bodyPost_ret (v:=.agg (rwR d bo6 bcap6 bo7 bcap7 bo8 bcap8).toArray) (by simp [results,Tryz.results64,go_sem,r_0,y_0,r_1,y_1,r_2,y_2,r_3,y_3,r_4,y_4,r_5,y_5,r_6,y_6,r_7,y_7,r_8,y_8]) rfl ?_;have F:OwnT zab W3 (w.heap.size+1+1) w3.heap.size d ([.int .i64 d.kind]++([.int .i64 d.seq]++([.string d.name]++([.int .i64 d.length]++([.int .i64 d.group]++([.int .i64 d.row]++([.slice bo6 d.rows.1 bcap6]++([.slice bo7 d.data.1 bcap7]++[.slice bo8 d.delta.1 bcap8])))))))):=OwnT.conv (OwnT.pre (A:=layI) (a:=d.kind) (c:=[.int .i64 d.kind]) ⟨rfl,Q0.out,rfl⟩ (OwnT.pre (A:=layI) (a:=d.seq) (c:=[.int .i64 d.seq]) ⟨rfl,Q1.out,rfl⟩ (OwnT.pre (A:=layS) (a:=d.name) (c:=[.string d.name]) ⟨rfl,Q2.out,rfl⟩ (OwnT.pre (A:=layI) (a:=d.length) (c:=[.int .i64 d.length]) ⟨rfl,Q3.out,rfl⟩ (OwnT.pre (A:=layI) (a:=d.group) (c:=[.int .i64 d.group]) ⟨rfl,Q4.out,rfl⟩ (OwnT.pre (A:=layI) (a:=d.row) (c:=[.int .i64 d.row]) ⟨rfl,Q5.out,rfl⟩ (OwnT.two O6.out (OwnT.two O7.out O8.out (by omega) (by omega) (by omega)) (by omega) (by omega) (by omega))))))))
 refine ⟨(rwR d bo6 bcap6 bo7 bcap7 bo8 bcap8),rfl,?_,?_⟩
 ·exact OwnT.finb (F.weaken (Nat.le_refl _) (by omega)) (b:=w.heap.size+1) (by omega) (by omega) 0 (rwR d bo6 bcap6 bo7 bcap7 bo8 bcap8) _ rfl
 ·exact HB.out.trans (zbC (by omega) (rwR d bo6 bcap6 bo7 bcap7 bo8 bcap8) 0)
set_option maxRecDepth 20000 in
theorem ziq:ToF (zab.slice 52) (szSl zaM) 63 64:=fun v d hi w h hhi hn=>by
 obtain ⟨n,x⟩:=d;obtain ⟨ao,cap,hv,hm,hc⟩:=h
 cases hv
 have hn1:=zfG hn;have hn2:∀ i,i<n→zaM (x i)≤1048576:=fun i hi=>zcT hn hi
 simp only at hn1 hm hc
 clear hn
 go_enter Tryz.func63,Tryz.ntmps63
 go_wp2_with (at_make;refine zdw zab [.int .i64 0,.int .i64 0,.string ByteArray.empty,.int .i64 0,.int .i64 0,.int .i64 0,.slice none 0 0,.slice none 0 0,.slice none 0 0] _ 52 128 (zdm).hs rfl Tryz.underlying30 (zdm).hi x (fun _=>[]) _ rfl _ _ rfl _ _ n rfl rfl rfl rfl (by omega) (by omega) ?_;intro w1 sp1 hb1)
 go_loopw [12] (fun i wr=>∃ k:Nat,k≤n∧i=.int .i64 k∧∃ ce Ls,SlP zab 52 wr w.heap.size w.heap.size n n k x ce Ls∧Below w.heap.size w wr) (fun i _=>n-(intOf i).toNat)
 case atStart=>exact ⟨0,Nat.zero_le _,rfl,_,_,sp1,hb1⟩
 case round=>
  clear sp1 hb1;obtain ⟨k,hk,rfl,ce,Ls,sp,hb⟩:=hrel
  by_cases hlt:k<n
  ·obtain ⟨b,off,rfl,hblt,hel⟩:=hc (by omega)
   obtain ⟨ck,hrk,hcell⟩:=zaJ (t:=0) hel hb hhi hblt hlt;obtain ⟨ao6,cap6,ao7,cap7,ao8,cap8,rfl,-⟩:=zaF hrk;have c0:wr.cell? ⟨b,off+k*9,none⟩=some (.int .i64 (x k).kind):=hcell 0 (by decide);have c1:wr.cell? ⟨b,off+k*9+1,none⟩=some (.int .i64 (x k).seq):=hcell 1 (by decide);have c2:wr.cell? ⟨b,off+k*9+2,none⟩=some (.string (x k).name):=hcell 2 (by decide);have c3:wr.cell? ⟨b,off+k*9+3,none⟩=some (.int .i64 (x k).length):=hcell 3 (by decide);have c4:wr.cell? ⟨b,off+k*9+4,none⟩=some (.int .i64 (x k).group):=hcell 4 (by decide);have c5:wr.cell? ⟨b,off+k*9+5,none⟩=some (.int .i64 (x k).row):=hcell 5 (by decide);have c6:wr.cell? ⟨b,off+k*9+6,none⟩=some (.slice ao6 (x k).rows.1 cap6):=hcell 6 (by decide);have c7:wr.cell? ⟨b,off+k*9+7,none⟩=some (.slice ao7 (x k).data.1 cap7):=hcell 7 (by decide);have c8:wr.cell? ⟨b,off+k*9+8,none⟩=some (.slice ao8 (x k).delta.1 cap8):=hcell 8 (by decide);clear hc hel hcell
   go_wp2_with fail
   refine (zjP _ (x k) hi wr hrk (Nat.le_trans hhi hb.size) (hn2 k hlt)).mono ?_;rintro e w2 ⟨cs',rfl,o2,hb2⟩;obtain ⟨bao6,bcap6,bao7,bcap7,bao8,bcap8,rfl⟩:=zgR o2;obtain ⟨z0,s0⟩:=sp.some hb2 hlt (show 0<zab.sz by decide);have s0:w2.cell? ⟨w.heap.size,k*9,none⟩=some z0:=s0;have sf0:=(sp.below hb2).frozen (k*9);obtain ⟨z1,s1⟩:=sp.some hb2 hlt (show 1<zab.sz by decide);have s1:w2.cell? ⟨w.heap.size,k*9+1,none⟩=some z1:=s1;have sf1:=(sp.below hb2).frozen (k*9+1);obtain ⟨z2,s2⟩:=sp.some hb2 hlt (show 2<zab.sz by decide);have s2:w2.cell? ⟨w.heap.size,k*9+2,none⟩=some z2:=s2;have sf2:=(sp.below hb2).frozen (k*9+2);obtain ⟨z3,s3⟩:=sp.some hb2 hlt (show 3<zab.sz by decide);have s3:w2.cell? ⟨w.heap.size,k*9+3,none⟩=some z3:=s3;have sf3:=(sp.below hb2).frozen (k*9+3);obtain ⟨z4,s4⟩:=sp.some hb2 hlt (show 4<zab.sz by decide);have s4:w2.cell? ⟨w.heap.size,k*9+4,none⟩=some z4:=s4;have sf4:=(sp.below hb2).frozen (k*9+4);obtain ⟨z5,s5⟩:=sp.some hb2 hlt (show 5<zab.sz by decide);have s5:w2.cell? ⟨w.heap.size,k*9+5,none⟩=some z5:=s5;have sf5:=(sp.below hb2).frozen (k*9+5);obtain ⟨z6,s6⟩:=sp.some hb2 hlt (show 6<zab.sz by decide);have s6:w2.cell? ⟨w.heap.size,k*9+6,none⟩=some z6:=s6;have sf6:=(sp.below hb2).frozen (k*9+6);obtain ⟨z7,s7⟩:=sp.some hb2 hlt (show 7<zab.sz by decide);have s7:w2.cell? ⟨w.heap.size,k*9+7,none⟩=some z7:=s7;have sf7:=(sp.below hb2).frozen (k*9+7);obtain ⟨z8,s8⟩:=sp.some hb2 hlt (show 8<zab.sz by decide);have s8:w2.cell? ⟨w.heap.size,k*9+8,none⟩=some z8:=s8;have sf8:=(sp.below hb2).frozen (k*9+8);have N:=sp.next hb2 hlt o2 hb.size;have N2:Below w.heap.size w (stN w2 w.heap.size (k*zab.sz) [.int .i64 (x k).kind,.int .i64 (x k).seq,.string (x k).name,.int .i64 (x k).length,.int .i64 (x k).group,.int .i64 (x k).row,.slice bao6 (x k).rows.1 bcap6,.slice bao7 (x k).data.1 bcap7,.slice bao8 (x k).delta.1 bcap8]):=(hb.trans (hb2.mono hb.size)).trans (zbC (Nat.le_refl _) _ _);clear o2 hb2 sp hb
   go_wp2_with fail
   go_roundw
   case rel=>
    obtain ⟨ce',Ls',N⟩:=N;exact ⟨k+1,by omega,by go_num,ce',Ls',N,N2⟩
   case measure=>simp [intOf];omega
  ·obtain rfl:k=n:=by omega
   go_wp2;go_ret;exact ⟨_,rfl,sp.done (Nat.le_refl _),hb⟩
set_option maxRecDepth 20000 in
theorem zhn:ToV zab zaM 19:=fun cs d hi w r hhi hn=>by
 obtain ⟨ao6,cap6,ao7,cap7,ao8,cap8,rfl,h6,h7,h8,k0,k1,k2,k3,k4,k5⟩:=zaF r;clear r;unfold zaM lenD at hn;have Q0:=hid k0;have Q1:=hid k1;have Q3:=hid k3;have Q4:=hid k4;have Q5:=hid k5;have Q2:=hid k2;clear k0 k1 k2 k3 k4 k5;have T0:=zaN w (rwR d ao6 cap6 ao7 cap7 ao8 cap8).toArray #[.int .i64 0,.int .i64 0,.string ⟨#[]⟩,.int .i64 0,.int .i64 0,.int .i64 0,.slice none 0 0,.slice none 0 0,.slice none 0 0] 52 52
 go_enter Tryz.func19,Tryz.ntmps19
 go_upto_region 1 with fail
 obtain ⟨W0,hW0⟩:∃ x,x=(w.alloc (.cells (rwR d ao6 cap6 ao7 cap7 ao8 cap8).toArray 52)).alloc (.cells #[.int .i64 0,.int .i64 0,.string ⟨#[]⟩,.int .i64 0,.int .i64 0,.int .i64 0,.slice none 0 0,.slice none 0 0,.slice none 0 0] 52):=⟨_,rfl⟩
 have z0:W0.heap.size=w.heap.size+1+1:=by rw [hW0];simp
 rw [← hW0] at T0 ⊢;clear hW0;have bA0:=bAl W0 (.cells #[] 2);have TA0:=T0.call bA0;obtain ⟨v',w1,hrun,o0,b0⟩:=zg9 25 (W0.alloc (.cells #[] 2)) W0.heap.size (zia W0 2) (zam.rd_below h6 TA0.bel hhi) (show d.rows.1≤10000000 by omega);obtain ⟨bo6,bcap6,hv⟩:=zdy o0;obtain rfl:=zbi hv;clear hv;have zw0:W0.heap.size+1≤w1.heap.size:=Nat.le_trans (by simp) b0.size;have TB0:Two w w1 (rwR d ao6 cap6 ao7 cap7 ao8 cap8).toArray #[.int .i64 0,.int .i64 0,.string ⟨#[]⟩,.int .i64 0,.int .i64 0,.int .i64 0,.slice none 0 0,.slice none 0 0,.slice none 0 0] 52 52:=⟨TA0.b1.below b0 (by omega),TA0.b2.below b0 (by omega),TA0.bel.trans (b0.mono (by omega))⟩;have xa:(W0.alloc (.cells #[] 2)).cell? ⟨w.heap.size,6,none⟩=some (.slice ao6 d.rows.1 cap6):=TA0.b1.cell 6;have xb:w1.cell? ⟨w.heap.size,6,none⟩=some (.slice ao6 d.rows.1 cap6):=TB0.b1.cell 6;have xf:w1.frozen? ⟨w.heap.size,6,none⟩=false:=TB0.b1.frozen 6;have T1:Two w (w1.setCell ⟨w.heap.size,6,none⟩ (.slice bo6 d.rows.1 bcap6)) (rwR d bo6 bcap6 ao7 cap7 ao8 cap8).toArray #[.int .i64 0,.int .i64 0,.string ⟨#[]⟩,.int .i64 0,.int .i64 0,.int .i64 0,.slice none 0 0,.slice none 0 0,.slice none 0 0] 52 52:=⟨TB0.b1.stL [.slice bo6 d.rows.1 bcap6] 6,TB0.b2.seto _ _ (by omega),TB0.bel.setCell (Nat.le_refl _) _⟩;have O6x:=o0.stN w.heap.size 6 [.slice bo6 d.rows.1 bcap6] (by omega)
 have e0:(w1.setCell ⟨w.heap.size,6,none⟩ (.slice bo6 d.rows.1 bcap6)).heap.size=w1.heap.size:=by simp
 clear TA0 TB0 o0 b0 bA0 T0
 go_upto_region 2 with (at_builtin;refine zbX rfl (.tmp 3) (.tmp 5) rfl ?_ ?_ hrun ?_;(simp [Act.eval]);(simp [Act.eval]))
 obtain ⟨W1,hW1⟩:∃ x,x=w1.setCell ⟨w.heap.size,6,none⟩ (.slice bo6 d.rows.1 bcap6):=⟨_,rfl⟩
 have O6:Hid (OwnT zam W1 W0.heap.size w1.heap.size d.rows [.slice bo6 d.rows.1 bcap6]):=by rw [hW1];exact O6x
 rw [← hW1] at T1 e0 ⊢;clear hW1 hrun xa xb xf O6x;have bA1:=bAl W1 (.cells #[] 5);have TA1:=T1.call bA1;obtain ⟨v',w2,hrun,o1,b1⟩:=zez 50 (W1.alloc (.cells #[] 5)) W1.heap.size (zia W1 5) (zag.rd_below h7 TA1.bel hhi) (show d.data.1≤10000000 by omega);obtain ⟨bo7,bcap7,hv⟩:=zbO o1;obtain rfl:=zbi hv;clear hv;have zw1:W1.heap.size+1≤w2.heap.size:=Nat.le_trans (by simp) b1.size;have TB1:Two w w2 (rwR d bo6 bcap6 ao7 cap7 ao8 cap8).toArray #[.int .i64 0,.int .i64 0,.string ⟨#[]⟩,.int .i64 0,.int .i64 0,.int .i64 0,.slice none 0 0,.slice none 0 0,.slice none 0 0] 52 52:=⟨TA1.b1.below b1 (by omega),TA1.b2.below b1 (by omega),TA1.bel.trans (b1.mono (by omega))⟩;have xa:(W1.alloc (.cells #[] 5)).cell? ⟨w.heap.size,7,none⟩=some (.slice ao7 d.data.1 cap7):=TA1.b1.cell 7;have xb:w2.cell? ⟨w.heap.size,7,none⟩=some (.slice ao7 d.data.1 cap7):=TB1.b1.cell 7;have xf:w2.frozen? ⟨w.heap.size,7,none⟩=false:=TB1.b1.frozen 7;have T2:Two w (w2.setCell ⟨w.heap.size,7,none⟩ (.slice bo7 d.data.1 bcap7)) (rwR d bo6 bcap6 bo7 bcap7 ao8 cap8).toArray #[.int .i64 0,.int .i64 0,.string ⟨#[]⟩,.int .i64 0,.int .i64 0,.int .i64 0,.slice none 0 0,.slice none 0 0,.slice none 0 0] 52 52:=⟨TB1.b1.stL [.slice bo7 d.data.1 bcap7] 7,TB1.b2.seto _ _ (by omega),TB1.bel.setCell (Nat.le_refl _) _⟩;have O6x:=((O6.out.call bA1).below b1 (by omega)).stN w.heap.size 7 [.slice bo7 d.data.1 bcap7] (by omega);have O7x:=o1.stN w.heap.size 7 [.slice bo7 d.data.1 bcap7] (by omega)
 have e1:(w2.setCell ⟨w.heap.size,7,none⟩ (.slice bo7 d.data.1 bcap7)).heap.size=w2.heap.size:=by simp
 clear TA1 TB1 o1 b1 bA1 T1 O6
 go_upto_region 3 with (at_builtin;refine zbX rfl (.tmp 8) (.tmp 10) rfl ?_ ?_ hrun ?_;(simp [Act.eval]);(simp [Act.eval]))
 obtain ⟨W2,hW2⟩:∃ x,x=w2.setCell ⟨w.heap.size,7,none⟩ (.slice bo7 d.data.1 bcap7):=⟨_,rfl⟩
 have O6:Hid (OwnT zam W2 W0.heap.size w1.heap.size d.rows [.slice bo6 d.rows.1 bcap6]):=by rw [hW2];exact O6x
 have O7:Hid (OwnT zag W2 W1.heap.size w2.heap.size d.data [.slice bo7 d.data.1 bcap7]):=by rw [hW2];exact O7x
 rw [← hW2] at T2 e1 ⊢;clear hW2 hrun xa xb xf O6x O7x;have bA2:=bAl W2 (.cells #[] 5);have TA2:=T2.call bA2;obtain ⟨v',w3,hrun,o2,b2⟩:=zez 50 (W2.alloc (.cells #[] 5)) W2.heap.size (zia W2 5) (zag.rd_below h8 TA2.bel hhi) (show d.delta.1≤10000000 by omega);obtain ⟨bo8,bcap8,hv⟩:=zbO o2;obtain rfl:=zbi hv;clear hv;have zw2:W2.heap.size+1≤w3.heap.size:=Nat.le_trans (by simp) b2.size;have TB2:Two w w3 (rwR d bo6 bcap6 bo7 bcap7 ao8 cap8).toArray #[.int .i64 0,.int .i64 0,.string ⟨#[]⟩,.int .i64 0,.int .i64 0,.int .i64 0,.slice none 0 0,.slice none 0 0,.slice none 0 0] 52 52:=⟨TA2.b1.below b2 (by omega),TA2.b2.below b2 (by omega),TA2.bel.trans (b2.mono (by omega))⟩;have xa:(W2.alloc (.cells #[] 5)).cell? ⟨w.heap.size,8,none⟩=some (.slice ao8 d.delta.1 cap8):=TA2.b1.cell 8;have xb:w3.cell? ⟨w.heap.size,8,none⟩=some (.slice ao8 d.delta.1 cap8):=TB2.b1.cell 8;have xf:w3.frozen? ⟨w.heap.size,8,none⟩=false:=TB2.b1.frozen 8;have T3:Two w (w3.setCell ⟨w.heap.size,8,none⟩ (.slice bo8 d.delta.1 bcap8)) (rwR d bo6 bcap6 bo7 bcap7 bo8 bcap8).toArray #[.int .i64 0,.int .i64 0,.string ⟨#[]⟩,.int .i64 0,.int .i64 0,.int .i64 0,.slice none 0 0,.slice none 0 0,.slice none 0 0] 52 52:=⟨TB2.b1.stL [.slice bo8 d.delta.1 bcap8] 8,TB2.b2.seto _ _ (by omega),TB2.bel.setCell (Nat.le_refl _) _⟩;have O6x:=((O6.out.call bA2).below b2 (by omega)).stN w.heap.size 8 [.slice bo8 d.delta.1 bcap8] (by omega);have O7x:=((O7.out.call bA2).below b2 (by omega)).stN w.heap.size 8 [.slice bo8 d.delta.1 bcap8] (by omega);have O8x:=o2.stN w.heap.size 8 [.slice bo8 d.delta.1 bcap8] (by omega)
 have e2:(w3.setCell ⟨w.heap.size,8,none⟩ (.slice bo8 d.delta.1 bcap8)).heap.size=w3.heap.size:=by simp
 clear TA2 TB2 o2 b2 bA2 T2 O6 O7
 go_upto_region 4 with (at_builtin;refine zbX rfl (.tmp 13) (.tmp 15) rfl ?_ ?_ hrun ?_;(simp [Act.eval]);(simp [Act.eval]))
 obtain ⟨W3,hW3⟩:∃ x,x=w3.setCell ⟨w.heap.size,8,none⟩ (.slice bo8 d.delta.1 bcap8):=⟨_,rfl⟩
 have O6:Hid (OwnT zam W3 W0.heap.size w1.heap.size d.rows [.slice bo6 d.rows.1 bcap6]):=by rw [hW3];exact O6x
 have O7:Hid (OwnT zag W3 W1.heap.size w2.heap.size d.data [.slice bo7 d.data.1 bcap7]):=by rw [hW3];exact O7x
 have O8:Hid (OwnT zag W3 W2.heap.size w3.heap.size d.delta [.slice bo8 d.delta.1 bcap8]):=by rw [hW3];exact O8x
 rw [← hW3] at T3 e2 ⊢;clear hW3 hrun xa xb xf O6x O7x O8x;have y_0:W3.cell? ⟨w.heap.size,0,none⟩=some (.int .i64 d.kind):=T3.b1.cell 0;have y_1:W3.cell? ⟨w.heap.size,1,none⟩=some (.int .i64 d.seq):=T3.b1.cell 1;have y_2:W3.cell? ⟨w.heap.size,2,none⟩=some (.string d.name):=T3.b1.cell 2;have y_3:W3.cell? ⟨w.heap.size,3,none⟩=some (.int .i64 d.length):=T3.b1.cell 3;have y_4:W3.cell? ⟨w.heap.size,4,none⟩=some (.int .i64 d.group):=T3.b1.cell 4;have y_5:W3.cell? ⟨w.heap.size,5,none⟩=some (.int .i64 d.row):=T3.b1.cell 5;have y_6:W3.cell? ⟨w.heap.size,6,none⟩=some (.slice bo6 d.rows.1 bcap6):=T3.b1.cell 6;have y_7:W3.cell? ⟨w.heap.size,7,none⟩=some (.slice bo7 d.data.1 bcap7):=T3.b1.cell 7;have y_8:W3.cell? ⟨w.heap.size,8,none⟩=some (.slice bo8 d.delta.1 bcap8):=T3.b1.cell 8;have r_0:W3.cell? ⟨w.heap.size+1,0,none⟩=some (.int .i64 0):=T3.b2.cell 0;have rf_0:W3.frozen? ⟨w.heap.size+1,0,none⟩=false:=T3.b2.frozen 0;have r_1:W3.cell? ⟨w.heap.size+1,1,none⟩=some (.int .i64 0):=T3.b2.cell 1;have rf_1:W3.frozen? ⟨w.heap.size+1,1,none⟩=false:=T3.b2.frozen 1;have r_2:W3.cell? ⟨w.heap.size+1,2,none⟩=some (.string ⟨#[]⟩):=T3.b2.cell 2;have rf_2:W3.frozen? ⟨w.heap.size+1,2,none⟩=false:=T3.b2.frozen 2;have r_3:W3.cell? ⟨w.heap.size+1,3,none⟩=some (.int .i64 0):=T3.b2.cell 3;have rf_3:W3.frozen? ⟨w.heap.size+1,3,none⟩=false:=T3.b2.frozen 3;have r_4:W3.cell? ⟨w.heap.size+1,4,none⟩=some (.int .i64 0):=T3.b2.cell 4;have rf_4:W3.frozen? ⟨w.heap.size+1,4,none⟩=false:=T3.b2.frozen 4;have r_5:W3.cell? ⟨w.heap.size+1,5,none⟩=some (.int .i64 0):=T3.b2.cell 5;have rf_5:W3.frozen? ⟨w.heap.size+1,5,none⟩=false:=T3.b2.frozen 5;have r_6:W3.cell? ⟨w.heap.size+1,6,none⟩=some (.slice none 0 0):=T3.b2.cell 6;have rf_6:W3.frozen? ⟨w.heap.size+1,6,none⟩=false:=T3.b2.frozen 6;have r_7:W3.cell? ⟨w.heap.size+1,7,none⟩=some (.slice none 0 0):=T3.b2.cell 7;have rf_7:W3.frozen? ⟨w.heap.size+1,7,none⟩=false:=T3.b2.frozen 7;have r_8:W3.cell? ⟨w.heap.size+1,8,none⟩=some (.slice none 0 0):=T3.b2.cell 8;have rf_8:W3.frozen? ⟨w.heap.size+1,8,none⟩=false:=T3.b2.frozen 8;have HB:=hid T3.bel;clear T3;go_wp2;refine bodyPost_ret (v:=.agg (rwR d bo6 bcap6 bo7 bcap7 bo8 bcap8).toArray) (by simp [results,Tryz.results19,go_sem,r_0,y_0,r_1,y_1,r_2,y_2,r_3,y_3,r_4,y_4,r_5,y_5,r_6,y_6,r_7,y_7,r_8,y_8]) rfl ?_;have F:OwnT zab W3 (w.heap.size+1+1) W3.heap.size d ([.int .i64 d.kind]++([.int .i64 d.seq]++([.string d.name]++([.int .i64 d.length]++([.int .i64 d.group]++([.int .i64 d.row]++([.slice bo6 d.rows.1 bcap6]++([.slice bo7 d.data.1 bcap7]++[.slice bo8 d.delta.1 bcap8])))))))):=OwnT.conv (OwnT.pre (A:=layI) (a:=d.kind) (c:=[.int .i64 d.kind]) ⟨rfl,Q0.out,rfl⟩ (OwnT.pre (A:=layI) (a:=d.seq) (c:=[.int .i64 d.seq]) ⟨rfl,Q1.out,rfl⟩ (OwnT.pre (A:=layS) (a:=d.name) (c:=[.string d.name]) ⟨rfl,Q2.out,rfl⟩ (OwnT.pre (A:=layI) (a:=d.length) (c:=[.int .i64 d.length]) ⟨rfl,Q3.out,rfl⟩ (OwnT.pre (A:=layI) (a:=d.group) (c:=[.int .i64 d.group]) ⟨rfl,Q4.out,rfl⟩ (OwnT.pre (A:=layI) (a:=d.row) (c:=[.int .i64 d.row]) ⟨rfl,Q5.out,rfl⟩ (OwnT.two (O6.out.weaken (by omega) (Nat.le_refl _)) (OwnT.two O7.out (O8.out.weaken (Nat.le_refl _) (by omega)) (by omega) (by omega) (by omega)) (by omega) (by omega) (by omega))))))))
 refine ⟨(rwR d bo6 bcap6 bo7 bcap7 bo8 bcap8),rfl,?_,?_⟩
 ·exact OwnT.finb F (b:=w.heap.size+1) (by omega) (by omega) 0 (rwR d bo6 bcap6 bo7 bcap7 bo8 bcap8) _ rfl
 ·exact HB.out.trans (zbC (by omega) (rwR d bo6 bcap6 bo7 bcap7 bo8 bcap8) 0)
def mixF {β:Type} (p:Nat→Bool) (j:Nat) (f:Nat→β):Nat→β:=fun m=>if m<(za1 p j).length then f (selF p j m) else f m
theorem ziV {β:Type} {p:Nat→Bool} {j m:Nat} (f:Nat→β) (h:(za1 p j).length≤m):mixF p j f m=f m:=by unfold mixF;rw [if_neg (by omega)]
theorem zcH {β:Type} {p:Nat→Bool} {j:Nat} (f:Nat→β) (h:p j=false) (m:Nat):mixF p (j+1) f m=mixF p j f m:=by
 unfold mixF;rw [zcR h]
 by_cases c:m<(za1 p j).length
 ·rw [if_pos c,if_pos c,zhm c]
 ·rw [if_neg c,if_neg c]
theorem zeU {β:Type} {p:Nat→Bool} {j:Nat} (f:Nat→β) (h:p j=true) (m:Nat):upd (mixF p j f) (za1 p j).length (f j) m=mixF p (j+1) f m:=by
 have e:(za1 p (j+1)).length=(za1 p j).length+1:=by rw [zcx,if_pos h];simp
 unfold mixF
 by_cases c:m=(za1 p j).length
 ·subst c
  rw [zbh,if_pos (by omega),zkW h]
 ·rw [zbI _ _ c]
  by_cases c2:m<(za1 p j).length
  ·rw [if_pos c2,if_pos (by omega),zhm c2]
  ·rw [if_neg c2,if_neg (by omega)]
theorem zdE {p:Nat→Bool} {n:Nat} (h:∀ i,i<n→p i=true):za1 p n=List.range n:=by
 unfold za1;exact List.filter_eq_self.2 (fun i hi=>h i (List.mem_range.1 hi))
theorem zfl {p:Nat→Bool} {n m:Nat} (h:∀ i,i<n→p i=true) (hm:m<n):selF p n m=m:=by
 unfold selF;rw [zdE h,List.getD_eq_getElem?_getD,List.getElem?_range hm];rfl
theorem zgl {β:Type} {p:Nat→Bool} {j:Nat} (f:Nat→β) (h:∀ i,i<j→p i=true) (m:Nat):mixF p j f m=f m:=by
 unfold mixF
 by_cases c:m<(za1 p j).length
 ·rw [if_pos c,zfl h (by rw [zdE h] at c;simpa using c)]
 ·rw [if_neg c]
theorem zho {p:Nat→Bool} {n i:Nat} (hi:i<n) (h:p i=false):(za1 p n).length<n:=by
 induction n with
 | zero=>omega
 | succ n ih=>
  by_cases c:i=n
  ·subst c
   rw [zcR h];have:=zfk p i;omega
  ·have:=ih (by omega)
   have h2:(za1 p (n+1)).length≤(za1 p n).length+1:=by rw [zcx];split<;>simp
   omega
theorem zlJ (w:World):(zeroValue 52).run Tryz.prog w=.ok (.agg #[.int .i64 0,.int .i64 0,.string ByteArray.empty,.int .i64 0,.int .i64 0,.int .i64 0,.slice none 0 0,.slice none 0 0,.slice none 0 0]) w:=by kernel_rfl
theorem zkX (n:Nat):∀ v,v∈(Builtin.zeroCells #[.int .i64 0,.int .i64 0,.string ByteArray.empty,.int .i64 0,.int .i64 0,.int .i64 0,.slice none 0 0,.slice none 0 0,.slice none 0 0] n).toList→v.oneCell'=true:=fun v hv=>by
 simp only [Builtin.zeroCells,Array.toList_map,List.mem_map] at hv
 obtain ⟨i,_,rfl⟩:=hv;have hi:i%9<9:=Nat.mod_lt _ (by decide)
 show (#[.int .i64 0,.int .i64 0,.string ByteArray.empty,.int .i64 0,.int .i64 0,.int .i64 0,.slice none 0 0,.slice none 0 0,.slice none 0 0]:Array Value)[i%9]!.oneCell'=true
 generalize i%9=j at hi
 match j,hi with
 | 0,_=>rfl
 | 1,_=>rfl
 | 2,_=>rfl
 | 3,_=>rfl
 | 4,_=>rfl
 | 5,_=>rfl
 | 6,_=>rfl
 | 7,_=>rfl
 | 8,_=>rfl
theorem zjQ (z:Value) (zs:Array Value) (hv:∀ w,(zeroValue 52).run Tryz.prog w=.ok z w) (hz:z.cells=zs) (h9:zs.size=9) (hone:∀ n v,v∈(Builtin.zeroCells zs n).toList→v.oneCell'=true) (w:World) (ty g o n c:Nat) (cur:Array Value) (hg:w.heap[g]?=some (.cells cur 52 (0,0))) (hn:0<n) (hl:o+n*9≤cur.size):∃ row:Array Value,(Builtin.clear_ #[30] ty #[.slice (some ⟨g,o,none⟩) n c]).run Tryz.prog w=.ok (.tuple #[]) (w.setRow g row)∧row.size=cur.size∧row.toList.take o=cur.toList.take o:=by
 obtain ⟨Z,hZ⟩:∃ Z,Z=(Builtin.zeroCells zs n).toList:=⟨_,rfl⟩
 have hlen:Z.length=n*9:=by rw [hZ];simp [Builtin.zeroCells,h9]
 have hst:=run_storeCells_at (P:=Tryz.prog) g o 52 Z 0 cur w hg (by rw [hlen];omega) (by rw [hZ];exact hone n)
 simp only [Nat.add_zero] at hst
 refine ⟨(cur.toList.take o++Z++cur.toList.drop (o+Z.length)).toArray,?_,?_,?_⟩
 ·obtain ⟨m,rfl⟩:∃ m,n=m+1:=⟨n-1,by omega⟩
  simp [Builtin.clear_,run_underlying Tryz.underlying30,hv,hz,← hZ,hst]
 ·simp only [List.size_toArray,List.length_append,List.length_take,List.length_drop,hlen,Array.length_toList]
  omega
 ·simp only [List.toList_toArray]
  rw [List.append_assoc,List.take_append_of_le_length (by simp;omega),List.take_take,Nat.min_self]
theorem zfS (w:World) (ty g o n c:Nat) (cur:Array Value) (hg:w.heap[g]?=some (.cells cur 52 (0,0))) (hn:0<n) (hl:o+n*9≤cur.size):∃ row:Array Value,(Builtin.clear_ #[30] ty #[.slice (some ⟨g,o,none⟩) n c]).run Tryz.prog w=.ok (.tuple #[]) (w.setRow g row)∧row.size=cur.size∧row.toList.take o=cur.toList.take o:=
 zjQ (.agg #[.int .i64 0,.int .i64 0,.string ByteArray.empty,.int .i64 0,.int .i64 0,.int .i64 0,.slice none 0 0,.slice none 0 0,.slice none 0 0]) #[.int .i64 0,.int .i64 0,.string ByteArray.empty,.int .i64 0,.int .i64 0,.int .i64 0,.slice none 0 0,.slice none 0 0,.slice none 0 0] zlJ rfl rfl zkX w ty g o n c cur hg hn hl
theorem zfT (g n cap i:Nat) (hi:i<n) (hn:n≤cap) (w:World):(Instr.slice 30 (.slice (some ⟨g,0,none⟩) n cap) (some (.int .i64 (i:Int))) none none).run Tryz.prog w=.ok (.slice (some ⟨g,i*9,none⟩) (n-i) (cap-i)) w:=by
 have e1:(i:Int)≤(n:Int):=by omega
 have e6:i≤n:=by omega
 have e7:¬ cap=i:=by omega
 simp [Instr.slice,run_underlying Tryz.underlying30,Instr.sliceBounds,Instr.sliceBound,asIntOf,go_sem,e1,e6,e7]
theorem ziW (g n cap i:Nat) (hi:i≤cap) (w:World):(Instr.slice 30 (.slice (some ⟨g,0,none⟩) n cap) none (some (.int .i64 (i:Int))) none).run Tryz.prog w=.ok (.slice (some ⟨g,0,none⟩) i cap) w:=by
 have e1:(i:Int)≤(cap:Int):=by omega
 simp [Instr.slice,run_underlying Tryz.underlying30,Instr.sliceBounds,Instr.sliceBound,asIntOf,go_sem,e1,hi]
theorem zhp {n m s:Nat} {ce:Nat→List Value} (h:∀ i,i<n→(ce i).length=s) (hm:m≤n):(catN n ce).take (m*s)=catN m ce:=by
 induction n with
 | zero=>
  obtain rfl:m=0:=by omega
  simp [catN]
 | succ n ih=>
  by_cases c:m=n+1
  ·subst c
   exact List.take_of_length_le (by rw [zbx h];exact Nat.le_refl _)
  ·have hl:(catN n ce).length=n*s:=zbx (fun i hi=>h i (by omega))
   have hms:m*s≤n*s:=Nat.mul_le_mul_right s (by omega);rw [za5,List.take_append_of_le_length (by omega)];exact ih (fun i hi=>h i (by omega)) (by omega)
end Go.Proofs.YtmehgpcmoejfcaaGreat
namespace Go.Proofs.YtmehgpcmoejfcaaGreat
open Go.RowKit Go.Maps Go.Sort Go.Shelf
def zfU:Go.Shelf.Ren:=⟨fun | 7=>151 | 10=>162 | n=>n,fun | 23=>149 | 26=>9 | 3=>176 | 28=>185 | 0=>0 | 27=>184 | 33=>193 | 4=>4 | n=>n,fun | n=>n⟩
theorem zmb:Go.Proofs.SlLaysZ.n7 Tryz.prog zfU:={
 mixed:=by kernel_rfl
 f7:=⟨Tryz.f151.name,by decide,Tryz.func151.trans (congrArg some (by kernel_rfl))⟩
 f10:=⟨Tryz.f162.name,by decide,Tryz.func162.trans (congrArg some (by kernel_rfl))⟩
 t0:=Tryz.underlying0
 a0:=Tryz.isAgg0
 z0:=Tryz.sizeOf0
 v0:=Tryz.zeroValue0
 t4:=Tryz.underlying4
 a4:=Tryz.isAgg4
 z4:=Tryz.sizeOf4
 v4:=Tryz.zeroValue4
 t23:=Tryz.underlying149
 a23:=Tryz.isAgg149
 z23:=Tryz.sizeOf149
 v23:=Tryz.zeroValue149
 t26:=Tryz.underlying9
 a26:=Tryz.isAgg9
 z26:=Tryz.sizeOf9
 v26:=Tryz.zeroValue9
 t27:=Tryz.underlying184
 a27:=Tryz.isAgg184
 z27:=Tryz.sizeOf184
 v27:=Tryz.zeroValue184
 t28:=Tryz.underlying185
 a28:=Tryz.isAgg185
 z28:=Tryz.sizeOf185
 v28:=Tryz.zeroValue185
 t33:=Tryz.underlying193
 a33:=Tryz.isAgg193
 z33:=Tryz.sizeOf193
 v33:=Tryz.zeroValue193 }
def zeI:Go.Shelf.Ren:=⟨fun | 6=>150 | 8=>160 | 9=>161 | 11=>166 | 13=>168 | 12=>167 | 23=>179 | 24=>180 | 14=>170 | 15=>171 | 16=>172 | 17=>173 | 18=>174 | 19=>175 | 20=>176 | 21=>177 | 22=>178 | 25=>181 | 26=>182 | 27=>183 | 28=>184 | 29=>185 | 30=>186 | 31=>187 | n=>n,fun | 26=>9 | 28=>185 | 24=>182 | 0=>0 | 3=>3 | 37=>194 | 48=>209 | 50=>211 | 4=>4 | 40=>201 | 39=>200 | 45=>206 | 5=>5 | 9=>9 | 51=>212 | 55=>216 | 57=>218 | 58=>219 | 33=>193 | n=>n,fun | n=>n⟩
theorem zlK:Go.Proofs.SlLaysZ.n6 Tryz.prog zeI:={
 mixed:=by kernel_rfl
 f6:=⟨Tryz.f150.name,by decide,Tryz.func150.trans (congrArg some (by kernel_rfl))⟩
 f8:=⟨Tryz.f160.name,by decide,Tryz.func160.trans (congrArg some (by kernel_rfl))⟩
 f11:=⟨Tryz.f166.name,by decide,Tryz.func166.trans (congrArg some (by kernel_rfl))⟩
 t0:=Tryz.underlying0
 a0:=Tryz.isAgg0
 z0:=Tryz.sizeOf0
 v0:=Tryz.zeroValue0
 t24:=Tryz.underlying182
 a24:=Tryz.isAgg182
 z24:=Tryz.sizeOf182
 v24:=Tryz.zeroValue182
 t26:=Tryz.underlying9
 a26:=Tryz.isAgg9
 z26:=Tryz.sizeOf9
 v26:=Tryz.zeroValue9
 t28:=Tryz.underlying185
 a28:=Tryz.isAgg185
 z28:=Tryz.sizeOf185
 v28:=Tryz.zeroValue185
 i26:=by kernel_rfl }
def zjR:Go.Shelf.Ren:=⟨fun | 6=>161 | 8=>168 | 9=>167 | 19=>179 | 20=>180 | 21=>170 | 22=>171 | 23=>172 | 24=>173 | 25=>174 | 26=>175 | 27=>176 | 28=>177 | 29=>178 | 36=>181 | 31=>182 | 32=>183 | 37=>184 | 38=>185 | 39=>186 | 41=>187 | n=>n,fun | 27=>182 | 29=>9 | 3=>3 | 32=>194 | 26=>182 | 0=>0 | 44=>209 | 46=>211 | 4=>4 | 36=>201 | 35=>200 | 41=>206 | 5=>5 | 9=>9 | 53=>212 | 57=>216 | 63=>218 | 64=>219 | n=>n,fun | n=>n⟩
theorem zmc:Go.Proofs.SlLaysM.n6 Tryz.prog zjR:={
 mixed:=by kernel_rfl
 f6:=⟨Tryz.f161.name,by decide,Tryz.func161.trans (congrArg some (by kernel_rfl))⟩
 f8:=Tryz.func168.trans (congrArg some (by kernel_rfl))
 f9:=⟨Tryz.f167.name,by decide,Tryz.func167.trans (congrArg some (by kernel_rfl))⟩
 f19:=Tryz.func179.trans (congrArg some (by kernel_rfl))
 f20:=Tryz.func180.trans (congrArg some (by kernel_rfl))
 f21:=⟨Tryz.f170.name,by decide,Tryz.func170.trans (congrArg some (by kernel_rfl))⟩
 f22:=⟨Tryz.f171.name,by decide,Tryz.func171.trans (congrArg some (by kernel_rfl))⟩
 f23:=⟨Tryz.f172.name,by decide,Tryz.func172.trans (congrArg some (by kernel_rfl))⟩
 f24:=⟨Tryz.f173.name,by decide,Tryz.func173.trans (congrArg some (by kernel_rfl))⟩
 f25:=⟨Tryz.f174.name,by decide,Tryz.func174.trans (congrArg some (by kernel_rfl))⟩
 f26:=⟨Tryz.f175.name,by decide,Tryz.func175.trans (congrArg some (by kernel_rfl))⟩
 f27:=⟨Tryz.f176.name,by decide,Tryz.func176.trans (congrArg some (by kernel_rfl))⟩
 f28:=⟨Tryz.f177.name,by decide,Tryz.func177.trans (congrArg some (by kernel_rfl))⟩
 f29:=⟨Tryz.f178.name,by decide,Tryz.func178.trans (congrArg some (by kernel_rfl))⟩
 f31:=Tryz.func182.trans (congrArg some (by kernel_rfl))
 f32:=Tryz.func183.trans (congrArg some (by kernel_rfl))
 f36:=⟨Tryz.f181.name,by decide,Tryz.func181.trans (congrArg some (by kernel_rfl))⟩
 f37:=⟨Tryz.f184.name,by decide,Tryz.func184.trans (congrArg some (by kernel_rfl))⟩
 f38:=⟨Tryz.f185.name,by decide,Tryz.func185.trans (congrArg some (by kernel_rfl))⟩
 f39:=⟨Tryz.f186.name,by decide,Tryz.func186.trans (congrArg some (by kernel_rfl))⟩
 f41:=⟨Tryz.f187.name,by decide,Tryz.func187.trans (congrArg some (by kernel_rfl))⟩
 t0:=Tryz.underlying0
 a0:=Tryz.isAgg0
 z0:=Tryz.sizeOf0
 v0:=Tryz.zeroValue0
 t3:=Tryz.underlying3
 a3:=Tryz.isAgg3
 z3:=Tryz.sizeOf3
 v3:=Tryz.zeroValue3
 t4:=Tryz.underlying4
 a4:=Tryz.isAgg4
 z4:=Tryz.sizeOf4
 v4:=Tryz.zeroValue4
 t5:=Tryz.underlying5
 a5:=Tryz.isAgg5
 z5:=Tryz.sizeOf5
 v5:=Tryz.zeroValue5
 t9:=Tryz.underlying9
 a9:=Tryz.isAgg9
 z9:=Tryz.sizeOf9
 v9:=Tryz.zeroValue9
 t26:=Tryz.underlying182
 a26:=Tryz.isAgg182
 z26:=Tryz.sizeOf182
 v26:=Tryz.zeroValue182
 t27:=Tryz.underlying182
 a27:=Tryz.isAgg182
 z27:=Tryz.sizeOf182
 v27:=Tryz.zeroValue182
 t29:=Tryz.underlying9
 a29:=Tryz.isAgg9
 z29:=Tryz.sizeOf9
 v29:=Tryz.zeroValue9
 t32:=Tryz.underlying194
 a32:=Tryz.isAgg194
 z32:=Tryz.sizeOf194
 v32:=Tryz.zeroValue194
 t35:=Tryz.underlying200
 a35:=Tryz.isAgg200
 z35:=Tryz.sizeOf200
 v35:=Tryz.zeroValue200
 t36:=Tryz.underlying201
 a36:=Tryz.isAgg201
 z36:=Tryz.sizeOf201
 v36:=Tryz.zeroValue201
 t41:=Tryz.underlying206
 a41:=Tryz.isAgg206
 z41:=Tryz.sizeOf206
 v41:=Tryz.zeroValue206
 t44:=Tryz.underlying209
 a44:=Tryz.isAgg209
 z44:=Tryz.sizeOf209
 v44:=Tryz.zeroValue209
 t46:=Tryz.underlying211
 a46:=Tryz.isAgg211
 z46:=Tryz.sizeOf211
 v46:=Tryz.zeroValue211
 t53:=Tryz.underlying212
 a53:=Tryz.isAgg212
 z53:=Tryz.sizeOf212
 v53:=Tryz.zeroValue212
 t57:=Tryz.underlying216
 a57:=Tryz.isAgg216
 z57:=Tryz.sizeOf216
 v57:=Tryz.zeroValue216
 t63:=Tryz.underlying218
 a63:=Tryz.isAgg218
 z63:=Tryz.sizeOf218
 v63:=Tryz.zeroValue218
 t64:=Tryz.underlying219
 a64:=Tryz.isAgg219
 z64:=Tryz.sizeOf219
 v64:=Tryz.zeroValue219 }
theorem zmt (m:Nat):AnyZ.SortsIn Tryz.prog zeI Fence.wide m:=
 ⟨fun blk off cap ss W hH hblk hsz=>callsIn_wide.2 (AnyM.slices_Sort_string zmc blk off cap ss W hH hblk hsz),
  fun p cap W=>callsIn_wide.2 (AnyM.slices_Sort_string_none zmc p cap W)⟩
theorem zjS (mb:Option Nat) (W:World):CallsIn Fence.wide 5 Tryz.prog 151 #[.map mb] W fun e w'=>e=.returned (.func (.func 162) #[] #[.pointer (some ⟨W.heap.size,0,none⟩)])∧w'=W.alloc (.cells #[.map mb] 149):=
 AnyZ.keys_in zmb Fence.wide 5 trivial rfl mb W
theorem zhq {H:Type} (b nn:Nat) (D0:DataW H) (R:Value→Option (DataW H×List MemPlace)) (w:World) (hown:w.ownsMap Tryz.prog 9 R b nn D0) (hmax:Maps.size D0≤maxLen) (hbytes:Maps.size D0*16≤140737488355328) :
 CallsIn Fence.wide 5 Tryz.prog 150 #[.func (.func 162) #[] #[.pointer (some ⟨w.heap.size,0,none⟩)]] (w.alloc (.cells #[.map (some b)] 149)) fun e w'=>∃ (v:Value) (ss:List (List UInt8)),e=.returned v∧ss.Perm (strKeys D0)∧
  w'.ownsRow (w.alloc (.cells #[.map (some b)] 149)).heap.size 9 1 v ss.length ((ss.mergeSort (fun x y=>decide (x≤y))).map encStr)∧(v=.slice none 0 0↔ss=[])∧Below (w.alloc (.cells #[.map (some b)] 149)).heap.size (w.alloc (.cells #[.map (some b)] 149)) w':=by
 have hbl:=hown.lt
 have hseq:SeqGives Fence.wide 2 Tryz.prog 162 #[.pointer (some ⟨w.heap.size,0,none⟩)] encStr (fun ss=>ss.Perm (strKeys D0)) (Maps.size D0) (w.alloc (.cells #[.map (some b)] 149)):=
  AnyZ.keys_gives (ρ:=zfU) { zmb with } Fence.wide _ trivial rfl (by omega) w.heap.size b nn D0 _ (by simp) (by simp) (by
   obtain ⟨es,clock,hb,Ft,hs,hD⟩:=hown
   exact ⟨es,clock,(Below.heap_alloc _ _ b hbl).trans hb,Ft,hs,hD⟩)
 exact AnyZ.sorted_in zlK Fence.wide 5 trivial trivial trivial trivial rfl (by omega) (zmt _) (enters_of Tryz.func161 (by kernel_rfl) rfl) 162 #[.pointer (some ⟨w.heap.size,0,none⟩)] trivial (enters_of Tryz.func162 (by kernel_rfl) rfl) _ _ hmax hbytes _ hseq
end Go.Proofs.YtmehgpcmoejfcaaGreat
namespace Go.Proofs.YtmehgpcmoejfcaaGreat
open Go.RowKit F256
open Go.Maps (Keyed)
/-- an element is read as itself -/
def zfC (v : Value) : Option (DataW Value × List MemPlace) := some (.held v, [])
/-- block b is a map of at most n entries; at the key x it has f x -/
def MapV (w : World) (k : TypeId) (b n : Nat) (f : Value → Option Value) : Prop :=
  ∃ D, w.ownsMap Tryz.prog k zfC b n D ∧ ∀ x l, keyOf Tryz.prog k x = some l → Maps.has D l = (f x).isSome ∧ ∀ z, D.atKey l (.held z) = .held ((f x).getD z)
open Classical in
/-- f, with v at the key x -/
noncomputable def putF (f : Value → Option Value) (x v : Value) : Value → Option Value := fun y => if y = x then some v else f y
theorem zeb (f : Value → Option Value) (x v : Value) : putF f x v x = some v := by unfold putF; rw [if_pos rfl]
theorem zep (f : Value → Option Value) {x y : Value} (v : Value) (h : y ≠ x) : putF f x v y = f y := by unfold putF; rw [if_neg h]
section
variable {w w' : World} {k t e : TypeId} {b n : Nat} {f : Value → Option Value}
theorem zdn (w : World) (k : TypeId) : MapV (w.alloc (.map #[] 0)) k w.heap.size 0 (fun _ => none) :=
  ⟨.map [], World.ownsMap_made w Tryz.prog k zfC, fun x l hx => ⟨by simp [Maps.has], fun z => by simp [DataW.atKey]⟩⟩
theorem MapV.lt (h : MapV w k b n f) : b < w.heap.size := by
  obtain ⟨D, h1, _⟩ := h
  exact h1.lt
theorem MapV.mono (h : MapV w k b n f) {m : Nat} (hm : n ≤ m) : MapV w k b m f := by
  obtain ⟨D, h1, h2⟩ := h
  exact ⟨D, h1.mono hm, h2⟩
theorem MapV.block (h : MapV w k b n f) (hb : w'.heap[b]? = w.heap[b]?) : MapV w' k b n f := by
  obtain ⟨D, ⟨es, clock, h1, h3⟩, h2⟩ := h
  exact ⟨D, ⟨es, clock, hb.trans h1, h3⟩, h2⟩
theorem MapV.look (h : MapV w k b n f) (K : Keyed Tryz.prog k) (ht : Tryz.prog.underlying t = some (.map k e)) {z : Value} (hz : (zeroValue e).run Tryz.prog w = .ok z w) {x : Value} {l : Lit} (hx : keyOf Tryz.prog k x = some l) :
    (Instr.lookup t (.map (some b)) x false).run Tryz.prog w = .ok ((f x).getD z) w := by
  obtain ⟨D, h1, h2⟩ := h
  obtain ⟨v, ps, h3, h4⟩ := h1.lookup K ht hz (zd := .held z) (zp := []) rfl hx
  rw [(h2 x l hx).2 z] at h4
  unfold zfC at h4
  simp only [Option.some.injEq, Prod.mk.injEq, DataW.held.injEq] at h4
  rw [h3, h4.1]
theorem ziX {D : DataW Value} (K : Keyed Tryz.prog k) (hD : Maps.IsMap D) {x v : Value} {l : Lit} (hx : keyOf Tryz.prog k x = some l) (h2 : ∀ x l, keyOf Tryz.prog k x = some l → Maps.has D l = (f x).isSome ∧ ∀ z, D.atKey l (.held z) = .held ((f x).getD z)) :
    ∀ y m, keyOf Tryz.prog k y = some m → Maps.has (D.put l (.held v)) m = (putF f x v y).isSome ∧ ∀ z, (D.put l (.held v)).atKey m (.held z) = .held ((putF f x v y).getD z) := by
  intro y m hy
  by_cases c : y = x
  · subst c
    rw [hx] at hy
    cases hy
    rw [zeb]
    exact ⟨Maps.has_put_same hD (K.key hx) _, fun z => Maps.atKey_put_same hD (K.key hx) _ _⟩
  · have hne : m ≠ l := fun e => c (K.inj hy (by rw [e]; exact hx))
    rw [zep f v c]
    exact ⟨(Maps.has_put_other hne _).trans (h2 y m hy).1, fun z => (Maps.atKey_put_other hne _ _).trans ((h2 y m hy).2 z)⟩
theorem MapV.put (h : MapV w k b n f) (K : Keyed Tryz.prog k) (ht : Tryz.prog.underlying t = some (.map k e)) (hn : n < maxLen) {x : Value} {l : Lit} (hx : keyOf Tryz.prog k x = some l) (v : Value) :
    ∃ w', (Instr.mapUpdate t (.map (some b)) x v).run Tryz.prog w = .ok () w' ∧ MapV w' k b (n + 1) (putF f x v) ∧ w.grownBy w' (some b) ∧ w'.heap.size = w.heap.size := by
  obtain ⟨D, h1, h2⟩ := h
  obtain ⟨w', h3, h4, h5⟩ := h1.store K ht hn hx (val := v) (d := .held v) (ps := []) rfl
  refine ⟨w', h3, ⟨_, h4, ziX K h1.isMap hx h2⟩, h5.grown, ?_⟩
  obtain ⟨es, clock, es', clock', _, rfl⟩ := h5
  simp [ChangeMaps.setBlock]
/-- m[x] op= v, where the key is an array or a struct: the entry is made (it has what was looked up), then stored into -/
theorem zkY {es : Array MapEntry} {clock : Nat} (K : WideMaps.KeyLaw Tryz.prog k) (ht : Tryz.prog.underlying t = some (.map k e)) {z : Value} (hz : ∀ u : World, (zeroValue e).run Tryz.prog u = .ok z u) (hb : w.heap[b]? = some (.map es clock)) (F : WideElems.Fit Tryz.prog k zfC es clock)
    {x : Value} {l : Lit} (hx : keyOf Tryz.prog k x = some l) :
    ∃ (v0 : Value) (st : Nat) (es1 : Array MapEntry) (clock1 : Nat), (Instr.mapEntry t (.map (some b)) x).run Tryz.prog w = .ok (.tuple #[v0, goInt st]) (ChangeMaps.setBlock w b (.map es1 clock1)) ∧
      (Instr.lookup t (.map (some b)) x false).run Tryz.prog w = .ok v0 w ∧ (Instr.mapUpdate t (.map (some b)) x v0).run Tryz.prog w = .ok () (ChangeMaps.setBlock w b (.map es1 clock1)) := by
  rcases K.find w hx es.toList F.keys with ⟨h1, h2⟩ | ⟨j, e0, h1, h2, h3⟩
  · refine ⟨z, clock, es.push ⟨x, z, clock⟩, clock + 1, ?_, ?_, ?_⟩
    · simp [Instr.mapEntry, run_underlying ht, MapKept.run_getObj_map hb, K.check w false hx, h1, hz, MapKept.run_setObj_map _ hb, Result.andThen, ChangeMaps.setBlock]
    · simp [Instr.lookup, run_underlying ht, MapKept.run_getObj_map hb, K.check w _ hx, h1, hz, Result.andThen]
    · simp [Instr.mapUpdate, run_underlying ht, MapKept.run_getObj_map hb, K.check w false hx, h1, MapKept.run_setObj_map _ hb, Result.andThen, ChangeMaps.setBlock]
  · have hj : es[j]? = some e0 := by simpa using h2
    have hs1 : es.modify j (fun e => { e with key := x }) = es := by
      apply Array.ext'
      rw [Array.toList_modify, ChangeMaps.modify_eq_set _ _ _ _ h2]
      have : ({ e0 with key := x } : MapEntry) = e0 := by rw [← h3]
      rw [this]
      exact WideElems.set_self _ _ _ h2
    have hs2 : es.modify j (fun e => { e with key := x, val := e0.val }) = es := by
      apply Array.ext'
      rw [Array.toList_modify, ChangeMaps.modify_eq_set _ _ _ _ h2]
      have : ({ e0 with key := x, val := e0.val } : MapEntry) = e0 := by rw [← h3]
      rw [this]
      exact WideElems.set_self _ _ _ h2
    refine ⟨e0.val, e0.born, es, clock, ?_, ?_, ?_⟩
    · simp [Instr.mapEntry, run_underlying ht, MapKept.run_getObj_map hb, K.check w false hx, h1, hj, h3, K.stays w hx, hs1, MapKept.run_setObj_map _ hb, Result.andThen, ChangeMaps.setBlock]
    · simp [Instr.lookup, run_underlying ht, MapKept.run_getObj_map hb, K.check w _ hx, h1, Result.andThen]
    · simp [Instr.mapUpdate, run_underlying ht, MapKept.run_getObj_map hb, K.check w false hx, h1, hj, h3, K.stays w hx, hs2, MapKept.run_setObj_map _ hb, Result.andThen, ChangeMaps.setBlock]
theorem MapV.entry (h : MapV w k b n f) (K : WideMaps.KeyLaw Tryz.prog k) (ht : Tryz.prog.underlying t = some (.map k e)) (hn : n < maxLen) {z : Value} (hz : ∀ u : World, (zeroValue e).run Tryz.prog u = .ok z u) {x : Value} {l : Lit} (hx : keyOf Tryz.prog k x = some l) :
    ∃ st w1, (Instr.mapEntry t (.map (some b)) x).run Tryz.prog w = .ok (.tuple #[(f x).getD z, .int .i64 st]) w1 ∧ w1.heap.size = w.heap.size ∧ w.grownBy w1 (some b) ∧ (Instr.lookup t (.map (some b)) x false).run Tryz.prog w1 = .ok ((f x).getD z) w1 ∧
      ∀ v, ∃ w', (Instr.entryStore t (.map (some b)) (.int .i64 st) v).run Tryz.prog w1 = .ok () w' ∧ MapV w' k b (n + 1) (putF f x v) ∧ w.grownBy w' (some b) ∧ w'.heap.size = w.heap.size := by
  have KK := Keyed.of_law K
  have hM := h
  obtain ⟨D, h1, h2⟩ := h
  have h1' := h1
  obtain ⟨es, clock, hb, F, hs, hD⟩ := h1'
  obtain ⟨v0, st, es1, clock1, r1, r2, r3⟩ := WideElems.entry_then_store K ht hz hb F hx
  obtain ⟨v0', st', es1', clock1', a1, a2, a3⟩ := zkY K ht hz hb F hx
  have ea : v0' = v0 ∧ ChangeMaps.setBlock w b (.map es1' clock1') = ChangeMaps.setBlock w b (.map es1 clock1) := by
    rw [r1] at a1
    simp only [Result.ok.injEq, Value.tuple.injEq, Array.mk.injEq, List.cons.injEq] at a1
    exact ⟨a1.1.1.symm, a1.2.symm⟩
  have ev : v0 = (f x).getD z := by
    have := hM.look KK ht (hz w) hx
    rw [a2, ea.1] at this
    simpa using this
  obtain ⟨w2, q1, q2, q3, q4⟩ := hM.put KK ht hn hx v0
  have ew : w2 = ChangeMaps.setBlock w b (.map es1 clock1) := by
    rw [ea.1, ea.2] at a3
    rw [a3] at q1
    simpa using q1.symm
  have hl : (Instr.lookup t (.map (some b)) x false).run Tryz.prog (ChangeMaps.setBlock w b (.map es1 clock1)) = .ok ((f x).getD z) (ChangeMaps.setBlock w b (.map es1 clock1)) := by
    rw [← ew]
    have := q2.look KK ht (hz w2) hx
    rw [zeb] at this
    rw [this, ev]
    rfl
  rw [ev] at r1
  refine ⟨(st : Int), _, r1, by simp [ChangeMaps.setBlock], ⟨rfl, rfl, rfl, by simp [ChangeMaps.setBlock], fun i _ hi => ChangeMaps.heap_setBlock_other hb _ (fun e => hi (by rw [e]))⟩, hl, fun v => ?_⟩
  obtain ⟨es', clock', r4, r5⟩ := r3 _ v (ChangeMaps.heap_setBlock_same hb _)
  obtain ⟨w', h3, h4, h5⟩ := h1.store KK ht hn hx (val := v) (d := .held v) (ps := []) rfl
  have ew : w' = ChangeMaps.setBlock w b (.map es' clock') := by
    rw [r5] at h3
    cases h3
    rfl
  have e2 : ChangeMaps.setBlock (ChangeMaps.setBlock w b (.map es1 clock1)) b (.map es' clock') = ChangeMaps.setBlock w b (.map es' clock') := by simp [ChangeMaps.setBlock]
  refine ⟨w', ?_, ⟨_, h4, ziX KK h1.isMap hx h2⟩, h5.grown, ?_⟩
  · rw [ew, ← e2]
    exact r4
  · rw [ew]
    simp [ChangeMaps.setBlock]
end
end Go.Proofs.YtmehgpcmoejfcaaGreat
namespace Go.Proofs.YtmehgpcmoejfcaaGreat
open Go.RowKit F256
open Go.Maps (Keyed)
theorem ziY:laidOutB Tryz.prog=true:=by kernel_rfl
theorem keyS:Keyed Tryz.prog 9:=Maps.string_keyed Tryz.underlying9
theorem keyI:Keyed Tryz.prog 2:=Maps.int_keyed Tryz.underlying2
theorem zkZ:WideMaps.KeyLaw Tryz.prog 179:=deep_law_laid ziY (m:=2) (by omega) (of_decide_eq_true (by kernel_rfl)) (by kernel_rfl) (by kernel_rfl)
theorem zlL:WideMaps.KeyLaw Tryz.prog 181:=deep_law_laid ziY (m:=2) (by omega) (of_decide_eq_true (by kernel_rfl)) (by kernel_rfl) (by kernel_rfl)
theorem zmu:Keyed Tryz.prog 179:=Keyed.of_law zkZ
theorem zlM:Keyed Tryz.prog 181:=Keyed.of_law zlL
theorem wf64 {a:Int} (h:-9223372036854775808≤a∧a≤9223372036854775807):(Lit.int .i64 a).wf=true:=by
 have e1:IntKind.i64.min=-9223372036854775808:=by decide
 have e2:IntKind.i64.max=9223372036854775807:=by decide
 simp [Lit.wf,e1,e2,h]
theorem zk0 {s:ByteArray} (h:s.size≤maxLen):∃ l,keyOf Tryz.prog 9 (.string s)=some l:=⟨_,WideMaps.keyOf_string_mk Tryz.underlying9 h⟩
theorem zk1 {a:Int} (h:-9223372036854775808≤a∧a≤9223372036854775807):∃ l,keyOf Tryz.prog 2 (.int .i64 a)=some l:=⟨_,Maps.keyOf_int_mk Tryz.underlying2 (wf64 h)⟩
theorem zjT {a b:Int} (ha:-9223372036854775808≤a∧a≤9223372036854775807) (hb:-9223372036854775808≤b∧b≤9223372036854775807):∃ l,keyOf Tryz.prog 179 (.agg #[.int .i64 a,.int .i64 b])=some l:=by
 have h1:Tryz.prog.keyType 179=true:=by kernel_rfl
 have h2:Tryz.prog.cellsOf 179=2:=by kernel_rfl
 have h3:Tryz.prog.cellsOf 2=1:=by kernel_rfl
 obtain ⟨m,hm⟩:∃ m,Tryz.prog.types.size=m+1:=⟨Tryz.prog.types.size-1,by have:0<Tryz.prog.types.size:=of_decide_eq_true (by kernel_rfl);omega⟩
 have k1:∀ x:Int,(-9223372036854775808≤x∧x≤9223372036854775807)→Tryz.prog.keyLits (m+1) 2 [.int .i64 x]=some [.int .i64 x]:=fun x hx=>by
  unfold Program.keyLits;rw [Tryz.underlying2]
  simp [wf64 hx]
 have k2:∃ ls,Tryz.prog.keyLits (m+1+1) 179 [.int .i64 a,.int .i64 b]=some ls:=by
  unfold Program.keyLits;rw [Tryz.underlying179]
  simp [h2,h3,k1 a ha,k1 b hb]
 obtain ⟨ls,k3⟩:=k2;refine ⟨.string (keyBytes ls),?_⟩;unfold keyOf;rw [Tryz.underlying179]
 have h4:(Value.agg #[.int .i64 a,.int .i64 b]).formed Tryz.prog 179=true:=by simp [Value.formed,Tryz.underlying179,h2]
 have h5:(Value.agg #[.int .i64 a,.int .i64 b]).cells.toList=[.int .i64 a,.int .i64 b]:=rfl
 simp only [h1,h4,h5,hm,k3,Bool.and_self,if_true,Option.map_some]
theorem zir {a b:Int} (ha:-9223372036854775808≤a∧a≤9223372036854775807) (hb:-9223372036854775808≤b∧b≤9223372036854775807):∃ l,keyOf Tryz.prog 181 (.agg #[.int .i64 a,.int .i64 b])=some l:=by
 have h1:Tryz.prog.keyType 181=true:=by kernel_rfl
 have h2:Tryz.prog.cellsOf 181=2:=by kernel_rfl
 have h3:Tryz.prog.cellsOf 2=1:=by kernel_rfl
 obtain ⟨m,hm⟩:∃ m,Tryz.prog.types.size=m+1:=⟨Tryz.prog.types.size-1,by have:0<Tryz.prog.types.size:=of_decide_eq_true (by kernel_rfl);omega⟩
 have k1:∀ x:Int,(-9223372036854775808≤x∧x≤9223372036854775807)→Tryz.prog.keyLits (m+1) 2 [.int .i64 x]=some [.int .i64 x]:=fun x hx=>by
  unfold Program.keyLits;rw [Tryz.underlying2]
  simp [wf64 hx]
 have k2:∃ ls,Tryz.prog.keyLits (m+1+1) 181 [.int .i64 a,.int .i64 b]=some ls:=by
  unfold Program.keyLits;rw [Tryz.underlying181]
  simp [h2,h3,k1 a ha,k1 b hb]
 obtain ⟨ls,k3⟩:=k2;refine ⟨.string (keyBytes ls),?_⟩;unfold keyOf;rw [Tryz.underlying181]
 have h4:(Value.agg #[.int .i64 a,.int .i64 b]).formed Tryz.prog 181=true:=by simp [Value.formed,Tryz.underlying181,h2]
 have h5:(Value.agg #[.int .i64 a,.int .i64 b]).cells.toList=[.int .i64 a,.int .i64 b]:=rfl
 simp only [h1,h4,h5,hm,k3,Bool.and_self,if_true,Option.map_some]
end Go.Proofs.YtmehgpcmoejfcaaGreat
namespace Go.Proofs.YtmehgpcmoejfcaaGreat
open Go.RowKit F256
open Go.Maps (Keyed)
def entT (k:Int):TypeId:=if k=1 then 176 else if k=2 then 164 else if k=3 then 177 else 165
def entV (k:Int) (cs:List Value):Value:=.iface (entT k) (.agg cs.toArray)
open Classical in
noncomputable def cN (p:Nat→Prop) (key:Nat→Value) (y:Value):Nat→Nat
 | 0=>0
 | k+1=>cN p key y k+(if p k∧key k=y then 1 else 0)
noncomputable def cntF (p:Nat→Prop) (key:Nat→Value) (k:Nat):Value→Option Value:=fun y=>if cN p key y k=0 then none else some (.int .i64 (cN p key y k:Int))
theorem zlN (p:Nat→Prop) (key:Nat→Value) (y:Value):∀ k,cN p key y k≤k
 | 0=>Nat.le_refl _
 | k+1=>by
  have:=zlN p key y k;unfold cN
  split<;>omega
theorem zb1 {p:Nat→Prop} {key:Nat→Value} {k:Nat} (h:¬ p k):cntF p key (k+1)=cntF p key k:=by
 funext y
 have e:cN p key y (k+1)=cN p key y k:=by
  show cN p key y k+_=_
  rw [if_neg (fun q=>h q.1)];rfl
 unfold cntF;rw [e]
theorem zgm {p:Nat→Prop} {key:Nat→Value} {k:Nat} (h:p k):cntF p key (k+1)=putF (cntF p key k) (key k) (.int .i64 ((cN p key (key k) k:Int)+1)):=by
 funext y
 by_cases c:y=key k
 ·subst c
  rw [zeb]
  have e:cN p key (key k) (k+1)=cN p key (key k) k+1:=by
   show cN p key (key k) k+_=_
   rw [if_pos ⟨h,rfl⟩]
  unfold cntF;rw [e,if_neg (by omega)]
  simp
 ·rw [zep _ _ c]
  have e:cN p key y (k+1)=cN p key y k:=by
   show cN p key y k+_=_
   rw [if_neg (fun q=>c q.2.symm)];rfl
  unfold cntF;rw [e]
theorem zgn (p:Nat→Prop) (key:Nat→Value) (k:Nat) (y:Value):(cntF p key k y).getD (.int .i64 0)=.int .i64 (cN p key y k:Int):=by
 unfold cntF
 split
 ·rename_i h
  rw [h];rfl
 ·rfl
noncomputable def zhr (p:Nat→Prop) (key val:Nat→Value):Nat→Value→Option Value
 | 0=>fun _=>none
 | k+1=>@ite _ (p k) (Classical.propDecidable _) (putF (zhr p key val k) (key k) (val k)) (zhr p key val k)
theorem zb4 {p:Nat→Prop} {key val:Nat→Value} {k:Nat} (h:¬ p k):zhr p key val (k+1)=zhr p key val k:=if_neg h
theorem zfm {p:Nat→Prop} {key val:Nat→Value} {k:Nat} (h:p k):zhr p key val (k+1)=putF (zhr p key val k) (key k) (val k):=if_pos h
section
variable (x:Nat→RecD) (ce:Nat→List Value) (k:Nat)
noncomputable def newF:Value→Option Value:=zhr (fun i=>(x i).kind=1) (fun i=>.string (x i).name) (fun i=>.agg (ce i).toArray) k
noncomputable def movF:Value→Option Value:=cntF (fun i=>(x i).kind=2) (fun i=>.int .i64 (x i).seq) k
noncomputable def donF:Value→Option Value:=cntF (fun i=>(x i).kind=3) (fun i=>.agg #[.int .i64 (x i).seq,.int .i64 (x i).group]) k
noncomputable def endF:Value→Option Value:=cntF (fun i=>(x i).kind=3) (fun i=>.int .i64 (x i).seq) k
noncomputable def shaF:Value→Option Value:=zhr (fun i=>(x i).kind=4) (fun i=>.agg #[.int .i64 (x i).group,.int .i64 (x i).row]) (fun i=>.int .i64 (x i).seq) k
def entL:List Value:=(List.range k).map (fun i=>entV (x i).kind (ce i))
end
theorem zk2 (x:Nat→RecD) (ce:Nat→List Value) (k:Nat):entL x ce (k+1)=entL x ce k++[entV (x k).kind (ce k)]:=by
 unfold entL;rw [List.range_succ,List.map_append];rfl
structure Ldg (w:World) (lo B:Nat) (s:Nat→Int) (m k:Nat) (x:Nat→RecD) (ce:Nat→List Value) (v:Value) (b1 b2 b3 b4 b5:Nat):Prop where
 box:Box w B #[.int .i64 (s 0),.int .i64 (s 1),.int .i64 (s 2),.int .i64 (s 3),.int .i64 (s 4),.int .i64 (s 5),.int .i64 (s 6),.int .i64 (s 7),.int .i64 (s 8),v,.map (some b1),.map (some b2),.map (some b3),.map (some b4),.map (some b5)] 155
 row:w.ownsRow lo 159 1 v m (entL x ce m)
 m1:MapV w 9 b1 k (newF x ce k)
 m2:MapV w 2 b2 k (movF x k)
 m3:MapV w 179 b3 k (donF x k)
 m4:MapV w 2 b4 k (endF x k)
 m5:MapV w 181 b5 k (shaF x k)
 nd:[B,b1,b2,b3,b4,b5].Nodup
 low:lo≤B∧lo≤b1∧lo≤b2∧lo≤b3∧lo≤b4∧lo≤b5
 apart:∀ g,v.ownBlock=some g→g∉[B,b1,b2,b3,b4,b5]
theorem zbH {w:World} {lo:Nat} {e:TypeId} {v:Value} {n:Nat} {xs:List Value} (h:w.ownsRow lo e 1 v n xs):∃ ao cap,v=.slice ao n cap:=by
 rcases h.2 with ⟨rfl,rfl⟩ | ⟨g,cap,cur,rfl,_⟩
 ·exact ⟨none,0,rfl⟩
 ·exact ⟨_,_,rfl⟩
theorem zfn {w w1 w2:World} {q:Option Nat} {b:Nat} (h1:w.grownBy w1 none) (h2:w1.grownBy w2 q) (hb:b<w.heap.size) (hq:some b≠q):w2.heap[b]?=w.heap[b]?:=
 (h2.block b (Nat.lt_of_lt_of_le hb h1.size) hq).trans (h1.block b hb (by simp))
section
variable {w w1 w2:World} {lo B:Nat} {s:Nat→Int} {m k:Nat} {x:Nat→RecD} {ce:Nat→List Value} {v v':Value} {b1 b2 b3 b4 b5:Nat}
theorem Ldg.grown (h:Ldg w lo B s m k x ce v b1 b2 b3 b4 b5) (h1:w.grownBy w1 none) (h2:w1.grownBy w2 v.ownBlock):Box w2 B #[.int .i64 (s 0),.int .i64 (s 1),.int .i64 (s 2),.int .i64 (s 3),.int .i64 (s 4),.int .i64 (s 5),.int .i64 (s 6),.int .i64 (s 7),.int .i64 (s 8),v,.map (some b1),.map (some b2),.map (some b3),.map (some b4),.map (some b5)] 155:=
 (zfn h1 h2 h.box.lt (fun e=>h.apart B e.symm (by simp))).trans h.box
theorem Ldg.laid {o1 o2:Obj} (h:Ldg w lo B s k k x ce v b1 b2 b3 b4 b5) (g1:(w.alloc o1).grownBy w1 v.ownBlock) (O1:w1.ownsRow lo 159 1 v' (k+1) (entL x ce k++[entV (x k).kind (ce k)])) (hloc:v'.ownBlock=v.ownBlock∨v'.ownBlock=some (w.alloc o1).heap.size) :
 Ldg ((w1.setCell ⟨B,9,none⟩ v').alloc o2) lo B s (k+1) k x ce v' b1 b2 b3 b4 b5:=by
 have g0:w.grownBy (w.alloc o1) none:=World.grownBy_alloc _ _ _
 have sz:w.heap.size+1≤w1.heap.size:=by have:=g1.size;simp at this;omega
 have keep:∀ b,b∈[B,b1,b2,b3,b4,b5]→b<w.heap.size→w1.heap[b]?=w.heap[b]?:=fun b hb hl=>zfn g0 g1 hl (fun e=>h.apart b e.symm hb)
 have ne:∀ b,b∈[b1,b2,b3,b4,b5]→b≠B:=fun b hb e=>by
  have:=h.nd;rw [List.nodup_cons] at this;exact this.1 (by rw [← e];exact hb)
 have keep2:∀ b,b∈[b1,b2,b3,b4,b5]→b<w.heap.size→((w1.setCell ⟨B,9,none⟩ v').alloc o2).heap[b]?=w.heap[b]?:=fun b hb hl=>by
  rw [Below.heap_alloc _ _ b (by simp;omega),heap_setCell_other w1 ⟨B,9,none⟩ b v' (ne b hb)];exact keep b (List.mem_cons_of_mem _ hb) hl
 have ap:∀ g,v'.ownBlock=some g→g∉[B,b1,b2,b3,b4,b5]:=fun g hg=>by
  rcases hloc with e | e
  ·exact h.apart g (by rw [← e];exact hg)
  ·rw [e] at hg
   cases hg
   have l0:=h.box.lt;have l1:=h.m1.lt;have l2:=h.m2.lt;have l3:=h.m3.lt;have l4:=h.m4.lt;have l5:=h.m5.lt
   simp
   omega
 refine ⟨?_,?_,h.m1.block (keep2 b1 (by simp) h.m1.lt),h.m2.block (keep2 b2 (by simp) h.m2.lt),h.m3.block (keep2 b3 (by simp) h.m3.lt),h.m4.block (keep2 b4 (by simp) h.m4.lt),h.m5.block (keep2 b5 (by simp) h.m5.lt),h.nd,h.low,ap⟩
 ·have X1:Box w1 B #[.int .i64 (s 0),.int .i64 (s 1),.int .i64 (s 2),.int .i64 (s 3),.int .i64 (s 4),.int .i64 (s 5),.int .i64 (s 6),.int .i64 (s 7),.int .i64 (s 8),v,.map (some b1),.map (some b2),.map (some b3),.map (some b4),.map (some b5)] 155:=(keep B (by simp) h.box.lt).trans h.box
  exact (X1.setc 9 v').allocd o2
 ·rw [zk2]
  have O2:(w1.setCell ⟨B,9,none⟩ v').ownsRow lo 159 1 v' (k+1) (entL x ce k++[entV (x k).kind (ce k)]):=by
   refine ⟨O1.1,?_⟩
   rcases O1.2 with hn | ⟨g,cap,cur,rfl,q1,q2,q3⟩
   ·exact .inl hn
   ·exact .inr ⟨g,cap,cur,rfl,q1,(heap_setCell_other w1 ⟨B,9,none⟩ g _ (fun e=>ap g rfl (by rw [show g=B from e];simp))).trans q2,q3⟩
  exact O2.alloc o2
theorem Ldg.drawn (h:Ldg w lo B s m k x ce v b1 b2 b3 b4 b5) (q:Nat):Ldg { w with drawn:=q } lo B s m k x ce v b1 b2 b3 b4 b5:=⟨h.box,h.row,h.m1,h.m2,h.m3,h.m4,h.m5,h.nd,h.low,h.apart⟩
theorem Ldg.next {T:List Nat} (h:Ldg w lo B s (k+1) k x ce v b1 b2 b3 b4 b5) (hb:∀ b,b<w.heap.size→b∉T→w2.heap[b]?=w.heap[b]?) (hT:∀ b,b∈T→b∈[b1,b2,b3,b4,b5])
 (m1:MapV w2 9 b1 (k+1) (newF x ce (k+1))) (m2:MapV w2 2 b2 (k+1) (movF x (k+1))) (m3:MapV w2 179 b3 (k+1) (donF x (k+1))) (m4:MapV w2 2 b4 (k+1) (endF x (k+1))) (m5:MapV w2 181 b5 (k+1) (shaF x (k+1))) :
 Ldg w2 lo B s (k+1) (k+1) x ce v b1 b2 b3 b4 b5:=by
 have nB:B∉T:=fun q=>by
  have:=h.nd;rw [List.nodup_cons] at this;exact this.1 (hT B q)
 refine ⟨(hb B h.box.lt nB).trans h.box,⟨h.row.1,?_⟩,m1,m2,m3,m4,m5,h.nd,h.low,h.apart⟩
 rcases h.row.2 with hn | ⟨g,cap,cur,rfl,q1,q2,q3⟩
 ·exact .inl hn
 ·exact .inr ⟨g,cap,cur,rfl,q1,(hb g (Array.getElem?_eq_some_iff.1 q2).1 (fun q=>h.apart g rfl (List.mem_cons_of_mem _ (hT g q)))).trans q2,q3⟩
end
theorem zc3 {w w1:World} {lo B:Nat} {s:Nat→Int} {m k:Nat} {x:Nat→RecD} {ce:Nat→List Value} {v:Value} {b1 b2 b3 b4 b5:Nat} {o1:Obj} (h:Ldg w lo B s m k x ce v b1 b2 b3 b4 b5) (g1:(w.alloc o1).grownBy w1 v.ownBlock) (hlo:lo≤w.heap.size):Below lo w w1:=by
 have g0:w.grownBy (w.alloc o1) none:=World.grownBy_alloc _ _ _;refine ⟨g1.os.trans g0.os,g1.tape.trans g0.tape,g1.output.trans g0.output,Nat.le_trans g0.size g1.size,fun b hb=>zfn g0 g1 (by omega) (fun e=>?_)⟩
 rcases h.row.2 with ⟨rfl,_⟩ | ⟨g,cap,cur,rfl,q1,_⟩
 ·cases e
 ·have:b=g:=by simpa [Value.ownBlock] using e
  omega
theorem ziZ (u:World):(zeroValue 2).run Tryz.prog u=.ok (.int .i64 0) u:=by kernel_rfl
theorem zjU {ops:Array Oper} {o:Oper} {a:Act} {W w':World} {K:Act→World→Prop} {Q:Exit→Act→World→Prop} {F:Prop} (hg:o.guard=none) (t:TypeId) (m x:Operand) (hop:o.op=Op.mapEntry t m x) (b:Nat) (key v:Value) (hm:a.eval m=.map (some b)) (hx:a.eval x=key)
 (hrun:(Instr.mapEntry t (.map (some b)) key).run Tryz.prog W=.ok v w') (hK:K (a.put o.dst v) w'):if Region.wanted o (yielded ops a.tmps)=true then Oper.wp Tryz.prog o a W K Q else F:=by
 have hw:Region.wanted o (yielded ops a.tmps)=true:=by simp [Region.wanted,hg]
 rw [if_pos hw];unfold Oper.wp
 simp [execOp,hop,hm,hx,hrun,Result.andThen]
 exact hK
theorem zis {ops:Array Oper} {o:Oper} {a:Act} {W w':World} {K:Act→World→Prop} {Q:Exit→Act→World→Prop} {F:Prop} (hg:o.guard=none) (t:TypeId) (m x y:Operand) (hop:o.op=Op.entryStore t m x y) (b:Nat) (st v:Value) (hm:a.eval m=.map (some b)) (hx:a.eval x=st) (hy:a.eval y=v)
 (hrun:(Instr.entryStore t (.map (some b)) st v).run Tryz.prog W=.ok () w') (hK:K (a.put o.dst undef) w'):if Region.wanted o (yielded ops a.tmps)=true then Oper.wp Tryz.prog o a W K Q else F:=by
 have hw:Region.wanted o (yielded ops a.tmps)=true:=by simp [Region.wanted,hg]
 rw [if_pos hw];unfold Oper.wp
 simp [execOp,hop,hm,hx,hy,hrun,Result.andThen]
 exact hK
theorem zmZ:Tryz.prog.follows Departure.mixedOrders=true:=by kernel_rfl
def EntQ (w w':World) (v v':Value) (T:List Nat):Prop:=(v'.ownBlock=v.ownBlock∨∃ g,w.heap.size≤g∧v'.ownBlock=some g)∧∀ b,b<w.heap.size→b∉T→v.ownBlock≠some b→w'.heap[b]?=w.heap[b]?
theorem zdF:(Tryz.prog.info? 159).map (fun i=>(i.zero,i.size,i.bytes))=some (some .nilIface,1,16):=by kernel_rfl
theorem ta00 (u:Value) (w:World):(Instr.typeAssert (.iface 176 u) 159 176 true).run Tryz.prog w=.ok (.tuple #[u,.bool true]) w:=by kernel_rfl
theorem ta01 (u:Value) (w:World):(Instr.typeAssert (.iface 176 u) 159 164 true).run Tryz.prog w=.ok (.tuple #[.agg #[.int .i64 0,.int .i64 0,.string ByteArray.empty,.int .i64 0,.int .i64 0,.int .i64 0,.slice none 0 0,.slice none 0 0,.slice none 0 0],.bool false]) w:=by kernel_rfl
theorem ta03 (u:Value) (w:World):(Instr.typeAssert (.iface 176 u) 159 165 true).run Tryz.prog w=.ok (.tuple #[.agg #[.int .i64 0,.int .i64 0,.string ByteArray.empty,.int .i64 0,.int .i64 0,.int .i64 0,.slice none 0 0,.slice none 0 0,.slice none 0 0],.bool false]) w:=by kernel_rfl
theorem ta10 (u:Value) (w:World):(Instr.typeAssert (.iface 164 u) 159 176 true).run Tryz.prog w=.ok (.tuple #[.agg #[.int .i64 0,.int .i64 0,.string ByteArray.empty,.int .i64 0,.int .i64 0,.int .i64 0,.slice none 0 0,.slice none 0 0,.slice none 0 0],.bool false]) w:=by kernel_rfl
theorem ta11 (u:Value) (w:World):(Instr.typeAssert (.iface 164 u) 159 164 true).run Tryz.prog w=.ok (.tuple #[u,.bool true]) w:=by kernel_rfl
theorem ta13 (u:Value) (w:World):(Instr.typeAssert (.iface 164 u) 159 165 true).run Tryz.prog w=.ok (.tuple #[.agg #[.int .i64 0,.int .i64 0,.string ByteArray.empty,.int .i64 0,.int .i64 0,.int .i64 0,.slice none 0 0,.slice none 0 0,.slice none 0 0],.bool false]) w:=by kernel_rfl
theorem ta20 (u:Value) (w:World):(Instr.typeAssert (.iface 177 u) 159 176 true).run Tryz.prog w=.ok (.tuple #[.agg #[.int .i64 0,.int .i64 0,.string ByteArray.empty,.int .i64 0,.int .i64 0,.int .i64 0,.slice none 0 0,.slice none 0 0,.slice none 0 0],.bool false]) w:=by kernel_rfl
theorem ta21 (u:Value) (w:World):(Instr.typeAssert (.iface 177 u) 159 164 true).run Tryz.prog w=.ok (.tuple #[.agg #[.int .i64 0,.int .i64 0,.string ByteArray.empty,.int .i64 0,.int .i64 0,.int .i64 0,.slice none 0 0,.slice none 0 0,.slice none 0 0],.bool false]) w:=by kernel_rfl
theorem ta22 (u:Value) (w:World):(Instr.typeAssert (.iface 177 u) 159 177 true).run Tryz.prog w=.ok (.tuple #[u,.bool true]) w:=by kernel_rfl
theorem ta23 (u:Value) (w:World):(Instr.typeAssert (.iface 177 u) 159 165 true).run Tryz.prog w=.ok (.tuple #[.agg #[.int .i64 0,.int .i64 0,.string ByteArray.empty,.int .i64 0,.int .i64 0,.int .i64 0,.slice none 0 0,.slice none 0 0,.slice none 0 0],.bool false]) w:=by kernel_rfl
theorem ta30 (u:Value) (w:World):(Instr.typeAssert (.iface 165 u) 159 176 true).run Tryz.prog w=.ok (.tuple #[.agg #[.int .i64 0,.int .i64 0,.string ByteArray.empty,.int .i64 0,.int .i64 0,.int .i64 0,.slice none 0 0,.slice none 0 0,.slice none 0 0],.bool false]) w:=by kernel_rfl
theorem ta31 (u:Value) (w:World):(Instr.typeAssert (.iface 165 u) 159 164 true).run Tryz.prog w=.ok (.tuple #[.agg #[.int .i64 0,.int .i64 0,.string ByteArray.empty,.int .i64 0,.int .i64 0,.int .i64 0,.slice none 0 0,.slice none 0 0,.slice none 0 0],.bool false]) w:=by kernel_rfl
theorem ta32 (u:Value) (w:World):(Instr.typeAssert (.iface 165 u) 159 177 true).run Tryz.prog w=.ok (.tuple #[.agg #[.int .i64 0,.int .i64 0,.string ByteArray.empty,.int .i64 0,.int .i64 0,.int .i64 0,.slice none 0 0,.slice none 0 0,.slice none 0 0],.bool false]) w:=by kernel_rfl
theorem ta33 (u:Value) (w:World):(Instr.typeAssert (.iface 165 u) 159 165 true).run Tryz.prog w=.ok (.tuple #[u,.bool true]) w:=by kernel_rfl
end Go.Proofs.YtmehgpcmoejfcaaGreat
namespace Go.Proofs.YtmehgpcmoejfcaaGreat
open Go.RowKit
section
variable {P:Program} {ops:Array Oper} {Q:Exit→Act→World→Prop} {md:Region.Mode} {S:World→Prop} {L:Nat}
theorem zap {i:Nat} {o:Oper} {fuel:Nat} {listed:Array Bool} {a:Act} {w:World} (ho:ops[i]?=some o) (hr:Region.ready md ops listed=[i])
 (h:∀ K':Act→World→Prop,Shut (∀ a w,S w→zaV P md ops Q S L fuel (listed.setIfInBounds i true) a w→K' a w)→if Region.wanted o (yielded ops a.tmps)=true then Oper.wp P o a w K' Q else K' (a.put o.dst undef) w):zaV P md ops Q S L (fuel+1) listed a w:=by
 refine ⟨fun h0=>(by rw [hr] at h0;cases h0),fun j hj=>?_⟩;rw [hr] at hj
 obtain rfl:j=i:=by simpa using hj
 exact wpOp_step ho (fun K' hK=>h K' (fun a w hS hW=>hK a w ⟨fun _=>hS,hW⟩))
theorem zbE {i j:Nat} {o o':Oper} {fuel:Nat} {listed:Array Bool} {a:Act} {w:World} (ho:ops[i]?=some o) (ho':ops[j]?=some o') (hr:Region.ready md ops listed=[i,j])
 (h:∀ K':Act→World→Prop,Shut (∀ a w,S w→zaV P md ops Q S L fuel (listed.setIfInBounds i true) a w→K' a w)→if Region.wanted o (yielded ops a.tmps)=true then Oper.wp P o a w K' Q else K' (a.put o.dst undef) w)
 (h':∀ K':Act→World→Prop,Shut (∀ a w,S w→zaV P md ops Q S L fuel (listed.setIfInBounds j true) a w→K' a w)→if Region.wanted o' (yielded ops a.tmps)=true then Oper.wp P o' a w K' Q else K' (a.put o'.dst undef) w):zaV P md ops Q S L (fuel+1) listed a w:=by
 refine ⟨fun h0=>(by rw [hr] at h0;cases h0),fun k hk=>?_⟩;rw [hr] at hk
 simp only [List.mem_cons,List.not_mem_nil,or_false] at hk
 rcases hk with rfl | rfl
 ·exact wpOp_step ho (fun K' hK=>h K' (fun a w hS hW=>hK a w ⟨fun _=>hS,hW⟩))
 ·exact wpOp_step ho' (fun K' hK=>h' K' (fun a w hS hW=>hK a w ⟨fun _=>hS,hW⟩))
end
theorem zbF {ops:Array Oper} {o:Oper} {a:Act} {W:World} {K:Act→World→Prop} {Q:Exit→Act→World→Prop} {F:Prop} (hg:o.guard=none) (hop:o.op=Op.buildSlice 30 0 #[])
 (hK:K (a.put o.dst (.slice (some ⟨W.heap.size,0,none⟩) 0 0)) (W.alloc (.cells #[] 52))):if Region.wanted o (yielded ops a.tmps)=true then Oper.wp Tryz.prog o a W K Q else F:=by
 have hw:Region.wanted o (yielded ops a.tmps)=true:=by simp [Region.wanted,hg]
 rw [if_pos hw];unfold Oper.wp execOp
 simp only [hop]
 go_simp;exact hK
theorem zit {ops:Array Oper} {o:Oper} {a:Act} {W:World} {K:Act→World→Prop} {Q:Exit→Act→World→Prop} {F:Prop} (hg:o.guard=none) (x:Operand) (hop:o.op=Op.buildSlice 30 1 #[(0,x)]) (r:RecD) (b6 b7 b8:Option Addr) (bk6 bk7 bk8:Nat) (hx:a.eval x=.agg #[.int .i64 r.kind,.int .i64 r.seq,.string r.name,.int .i64 r.length,.int .i64 r.group,.int .i64 r.row,.slice b6 r.rows.1 bk6,.slice b7 r.data.1 bk7,.slice b8 r.delta.1 bk8])
 (hK:K (a.put o.dst (.slice (some ⟨W.heap.size,0,none⟩) 1 1)) (W.alloc (.cells #[.int .i64 r.kind,.int .i64 r.seq,.string r.name,.int .i64 r.length,.int .i64 r.group,.int .i64 r.row,.slice b6 r.rows.1 bk6,.slice b7 r.data.1 bk7,.slice b8 r.delta.1 bk8] 52))):if Region.wanted o (yielded ops a.tmps)=true then Oper.wp Tryz.prog o a W K Q else F:=by
 have hw:Region.wanted o (yielded ops a.tmps)=true:=by simp [Region.wanted,hg]
 rw [if_pos hw];unfold Oper.wp execOp
 simp only [hop,List.map_toArray,List.map_cons,List.map_nil,hx]
 go_simp;exact hK
theorem zaT {ops:Array Oper} {o:Oper} {a:Act} {W:World} {K:Act→World→Prop} {Q:Exit→Act→World→Prop} {F:Prop} (hg:o.guard=none) (x:Operand) (hop:o.op=Op.buildSlice 30 1 #[(0,x)]) {w0:World} {hi0:Nat} {r:RecD} {cs:List Value} (hr:zab.rd w0 hi0 r cs) (hx:a.eval x=.agg cs.toArray)
 (hK:K (a.put o.dst (.slice (some ⟨W.heap.size,0,none⟩) 1 1)) (W.alloc (.cells cs.toArray 52))):if Region.wanted o (yielded ops a.tmps)=true then Oper.wp Tryz.prog o a W K Q else F:=by
 obtain ⟨b6,bk6,b7,bk7,b8,bk8,rfl,-⟩:=zaF hr;exact zit hg x hop r b6 b7 b8 bk6 bk7 bk8 hx hK
end Go.Proofs.YtmehgpcmoejfcaaGreat
